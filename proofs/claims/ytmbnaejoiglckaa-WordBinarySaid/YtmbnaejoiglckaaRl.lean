/-
  The document's own mix and mul, in numbers: for WordBinary.
-/
import Derived.Test.YtmbnaejoiglckaaRk
namespace Go.Proofs.Ytmbnaejoiglckaa
open Go.RowKit
set_option linter.unusedVariables false
set_option linter.unusedSimpArgs false
def mxn (how : Int) (x y : Nat) : Nat := if how = 0 then x &&& y else if how = 1 then x ||| y else x ^^^ y
theorem Mix_v (how : Int) (hh : how = 0 ∨ how = 1 ∨ how = 2) (g1 c1 g2 c2 n x y : Nat) (w : World) (hn : 1 ≤ n) (hn2 : n ≤ 65) (hc1 : n ≤ c1) (hc2 : n ≤ c2) (hd1 : c1 ≤ 9223372036854775807) (hd2 : c2 ≤ 9223372036854775807) (hx : x < 2 ^ n) (hy : y < 2 ^ n) (h1 : Bo w g1 n (bt x)) (h2 : Bo w g2 n (bt y)) :
    Calls Try.prog 27 #[.slice (some ⟨g1, 0, none⟩) n c1, .slice (some ⟨g2, 0, none⟩) n c2, .int .i64 how] w (LPost w.heap.size n (bt (mxn how x y)) w) := by
  obtain ⟨m1, m2, m3⟩ := mix_num hx hy
  rcases hh with rfl | rfl | rfl
  · exact (Mix_01 0 (.inl rfl) g1 c1 g2 c2 n _ _ w hn hn2 hc1 hc2 hd1 hd2 h1 h2).mono fun e w' h => h.is (by simp only [mx, mxn]; exact m1)
  · exact (Mix_01 1 (.inr rfl) g1 c1 g2 c2 n _ _ w hn hn2 hc1 hc2 hd1 hd2 h1 h2).mono fun e w' h => h.is (by simp only [mx, mxn]; exact m2)
  · exact (Mix_2 g1 c1 g2 c2 n _ _ w hn hn2 hc1 hc2 hd1 hd2 h1 h2).mono fun e w' h => h.is (by simp only [mx, mxn]; exact m3)
theorem Left_v (g1 c1 n x k : Nat) (w : World) (hn : 1 ≤ n) (hn2 : n ≤ 65) (hk : k ≤ n) (hc1 : n ≤ c1) (hd1 : c1 ≤ 9223372036854775807) (hx : x < 2 ^ n) (h1 : Bo w g1 n (bt x)) :
    Calls Try.prog 28 #[.slice (some ⟨g1, 0, none⟩) n c1, .int .i64 (k : Int), .bool false] w (FPost w.heap.size n (x * 2 ^ k % 2 ^ n) w) :=
  Shift_any g1 c1 n (bt x) k false w hn hn2 (by omega) (by omega) hc1 hd1 h1 (left_num hx hk)
theorem Right_v (g1 c1 n x k : Nat) (fill : Bool) (w : World) (hn : 1 ≤ n) (hn2 : n ≤ 65) (hk : k ≤ n) (hc1 : n ≤ c1) (hd1 : c1 ≤ 9223372036854775807) (hx : x < 2 ^ n) (h1 : Bo w g1 n (bt x)) :
    Calls Try.prog 28 #[.slice (some ⟨g1, 0, none⟩) n c1, .int .i64 (-(k : Int)), .bool fill] w (FPost w.heap.size n (x / 2 ^ k + (if fill = true then 2 ^ n - 2 ^ (n - k) else 0)) w) :=
  Shift_any g1 c1 n (bt x) (-(k : Int)) fill w hn hn2 (by omega) (by omega) hc1 hd1 h1 (right_num fill hx hk)
set_option maxHeartbeats 4000000 in
set_option maxRecDepth 100000 in
theorem Mul_v (g1 c1 g2 c2 n x y : Nat) (w : World) (hn : 1 ≤ n) (hn2 : n ≤ 64) (hc1 : n ≤ c1) (hc2 : n ≤ c2) (hd1 : c1 ≤ 9223372036854775807) (hd2 : c2 ≤ 9223372036854775807) (hx : x < 2 ^ n) (hy : y < 2 ^ n) (h1 : Bo w g1 n (bt x)) (h2 : Bo w g2 n (bt y)) :
    Calls Try.prog 23 #[.slice (some ⟨g1, 0, none⟩) n c1, .slice (some ⟨g2, 0, none⟩) n c2] w (LPost w.heap.size n (bt (x * y % 2 ^ n)) w) := by
  have hmk := fun W : World => run_mk n (by omega) W
  have H1 := Lib.hid h1
  have H2 := Lib.hid h2
  have S := Lib.hid (fun (W : World) (k : Nat) (hk : k ≤ n) (b : Bo W g1 n (bt x)) => Left_v g1 c1 n x k W hn (by omega) hk hc1 hd1 hx b)
  have A := Lib.hid (fun (W : World) (g c g' c' a b : Nat) (a1 : n ≤ c) (a2 : c ≤ 9223372036854775807) (a3 : n ≤ c') (a4 : c' ≤ 9223372036854775807) (b1 : Bo W g n (bt (a % 2 ^ n))) (b2 : Bo W g' n (bt (b % 2 ^ n))) => Add_v g c g' c' n (a % 2 ^ n) (b % 2 ^ n) false W hn (by omega) a1 a3 a2 a4 (Nat.mod_lt _ (Nat.two_pow_pos n)) (Nat.mod_lt _ (Nat.two_pow_pos n)) b1 b2)
  have ST := Lib.hid (fun i => mul_step (2 ^ n) x y i)
  have SK := Lib.hid (fun i => mul_skip (2 ^ n) x y i)
  have E : Hid (x * y % 2 ^ n = x * (y % 2 ^ n) % 2 ^ n) := Lib.hid (by rw [Nat.mod_eq_of_lt hy])
  have Z : Hid (x * (y % 2 ^ 0) % 2 ^ n = 0) := Lib.hid (by simp [Nat.mod_one])
  rw [E.out]
  clear h1 h2 hx hy E
  go_enter Try.func23, Try.ntmps23
  go_wp2
  go_loopw [5, 6] (fun v5 v6 wr => ∃ k g cp : Nat, k ≤ n ∧ v6 = .int .i64 k ∧ v5 = .slice (some ⟨g, 0, none⟩) n cp ∧ n ≤ cp ∧ cp ≤ 9223372036854775807 ∧ w.heap.size ≤ g ∧ Hid (Bo wr g n (bt (x * (y % 2 ^ k) % 2 ^ n))) ∧ Hid (Below w.heap.size w wr)) (fun _ v6 _ => n - (intOf v6).toNat)
  case atStart => exact ⟨0, w.heap.size, n, Nat.zero_le _, rfl, rfl, Nat.le_refl _, by omega, Nat.le_refl _, Lib.hid (by rw [Z.out]; exact bo_made w n), Lib.hid ((Below.refl _ w).alloc (Nat.le_refl _) _)⟩
  case round =>
    obtain ⟨k, g, cp, hk, rfl, rfl, hcp, hcp2, hg, HB, HBl⟩ := hrel
    by_cases hlt : k < n
    · have d2 := (H2.out.below HBl.out H2.out.1).2 k hlt
      have hST := ST.out k
      have hSK := SK.out k
      obtain ⟨b, eb⟩ : ∃ b, b = bt y k := ⟨_, rfl⟩
      rw [← eb] at d2 hST hSK
      have HST := Lib.hid hST
      have HSK := Lib.hid hSK
      clear eb hST hSK
      cases b
      · go_wp2
        go_roundw
        case rel => exact ⟨k + 1, g, cp, by omega, by go_num, rfl, hcp, hcp2, hg, Lib.hid (by rw [← HSK.out (by trivial)]; exact HB.out), HBl⟩
        case measure => simp [intOf]; omega
      · have HSH := Lib.hid (S.out wr k hk (H1.out.below HBl.out H1.out.1))
        go_wp2_with (first
          | (go_at_call 28; with_reducible refine HSH.out.mono ?_; rintro e w1 hL; unfold FPost at hL; obtain ⟨g3, c3, rfl, n3, m3, b3, k3, h3, _⟩ := hL; have B3 := Lib.hid b3; have H3 := Lib.hid h3; have B0 := Lib.hid (HB.out.below h3 HB.out.lt); clear b3 h3)
          | (go_at_call 21; with_reducible refine (A.out _ _ _ _ _ _ _ hcp hcp2 n3 m3 B0.out B3.out).mono ?_; rintro e w2 hL; unfold LPost at hL; obtain ⟨g4, c4, rfl, n4, m4, b4, k4, h4⟩ := hL; have B4 := Lib.hid b4; have H4 := Lib.hid (HBl.out.trans ((H3.out.trans (h4.mono H3.out.size)).mono HBl.out.size)); have K4 := Lib.hid (Nat.le_trans (Nat.le_trans HBl.out.size H3.out.size) k4); clear b4 h4 k4))
        go_roundw
        case rel => exact ⟨k + 1, g4, c4, by omega, by go_num, rfl, n4, m4, K4.out, Lib.hid (by rw [← HST.out trivial]; exact B4.out), H4⟩
        case measure => simp [intOf]; omega
    · obtain rfl : n = k := by omega
      go_wp2
      go_ret
      exact ⟨g, cp, rfl, hcp, hcp2, HB.out, hg, HBl.out⟩
end Go.Proofs.Ytmbnaejoiglckaa
