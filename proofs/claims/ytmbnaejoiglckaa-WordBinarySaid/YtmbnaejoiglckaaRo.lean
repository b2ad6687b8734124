/-
  The document's own Binary, op by op, of words of 32 and of 64 bits: 3 to 6.
-/
import Derived.Test.YtmbnaejoiglckaaRn
namespace Go.Proofs.Ytmbnaejoiglckaa
open Go.RowKit
set_option linter.unusedVariables false
set_option linter.unusedSimpArgs false
theorem rbz {op n : Int} {a b : Nat} (h1 : 3 ≤ op) (h2 : op ≤ 6) (h0 : Wd.cut n b = 0) : Wd.bz op n a b = 0 ∧ Wd.tr op n a b = 2 := by
  have : Wd.trap op n (Wd.cut n a) (Wd.cut n b) = 2 := by unfold Wd.trap; rw [if_neg (by omega), if_pos h0]
  exact ⟨by unfold Wd.bz; rw [if_neg (by rw [this]; decide)], this⟩
theorem rb_46 {n : Int} {a b : Nat} (h0 : Wd.cut n b ≠ 0) : (Wd.bz 4 n a b = Wd.cut n a / Wd.cut n b ∧ Wd.tr 4 n a b = 0) ∧ (Wd.bz 6 n a b = Wd.cut n a % Wd.cut n b ∧ Wd.tr 6 n a b = 0) := by
  have t4 : Wd.trap 4 n (Wd.cut n a) (Wd.cut n b) = 0 := by simp [Wd.trap, h0]
  have t6 : Wd.trap 6 n (Wd.cut n a) (Wd.cut n b) = 0 := by simp [Wd.trap, h0]
  exact ⟨⟨by unfold Wd.bz; rw [if_pos t4]; simp [Wd.bin], t4⟩, ⟨by unfold Wd.bz; rw [if_pos t6]; simp [Wd.bin], t6⟩⟩
theorem rb_tops {n : Int} (h : Wd.ok n) {a : Nat} (ha : a < 18446744073709551616) : bt (Wd.cut n a) (n.toNat - 1) = decide (2 ^ (n.toNat - 1) ≤ Wd.cut n a) := by
  have hx := Wd.cut_lt h ha
  have h1 : 1 ≤ n.toNat := by rcases h with rfl | rfl <;> decide
  exact top_bit (by rw [show n.toNat - 1 + 1 = n.toNat by omega, ← Wd.md_pow h]; exact hx)
theorem rb_5 {n : Int} (h : Wd.ok n) {a b : Nat} (ha : a < 18446744073709551616) (hb : b < 18446744073709551616) (h0 : Wd.cut n b ≠ 0) {na nb : Bool} (ena : bt (Wd.cut n a) (n.toNat - 1) = na) (enb : bt (Wd.cut n b) (n.toNat - 1) = nb) :
    Wd.bz 5 n a b = (if na = true then (2 ^ n.toNat - ab (2 ^ n.toNat) (Wd.cut n a) na % ab (2 ^ n.toNat) (Wd.cut n b) nb) % 2 ^ n.toNat else ab (2 ^ n.toNat) (Wd.cut n a) na % ab (2 ^ n.toNat) (Wd.cut n b) nb) ∧ Wd.tr 5 n a b = 0 ∧
    ab (2 ^ n.toNat) (Wd.cut n b) nb ≠ 0 ∧ ab (2 ^ n.toNat) (Wd.cut n a) na < 2 ^ n.toNat ∧ ab (2 ^ n.toNat) (Wd.cut n b) nb < 2 ^ n.toNat := by
  rw [rb_tops h ha] at ena
  rw [rb_tops h hb] at enb
  obtain ⟨d1, d2, d3, d4, d5, d6⟩ := divs_num h (Wd.cut_lt h ha) (Wd.cut_lt h hb) (md_two h) h0
  rw [ena] at d1 d2 d3 d5
  rw [enb] at d1 d2 d3 d4 d6
  rw [← Wd.md_pow h]
  have t5 : Wd.trap 5 n (Wd.cut n a) (Wd.cut n b) = 0 := by simp [Wd.trap, h0]
  refine ⟨?_, t5, d4, d5, d6⟩
  unfold Wd.bz
  rw [if_pos t5, d3]
  have : (2 ^ (n.toNat - 1) ≤ Wd.cut n a) ↔ na = true := by rw [← ena]; simp
  by_cases q : na = true
  · rw [if_pos q, if_pos (this.2 q)]
  · rw [if_neg q, if_neg (fun z => q (this.1 z))]
theorem rb_3 {n : Int} (h : Wd.ok n) {a b : Nat} (ha : a < 18446744073709551616) (hb : b < 18446744073709551616) (h0 : Wd.cut n b ≠ 0) {na nb : Bool} (ena : bt (Wd.cut n a) (n.toNat - 1) = na) (enb : bt (Wd.cut n b) (n.toNat - 1) = nb) :
    (na = nb → 2 ^ (n.toNat - 1) ≤ ab (2 ^ n.toNat) (Wd.cut n a) na / ab (2 ^ n.toNat) (Wd.cut n b) nb → Wd.bz 3 n a b = 0 ∧ Wd.tr 3 n a b = 3) ∧
    (na = nb → ¬ 2 ^ (n.toNat - 1) ≤ ab (2 ^ n.toNat) (Wd.cut n a) na / ab (2 ^ n.toNat) (Wd.cut n b) nb → Wd.bz 3 n a b = ab (2 ^ n.toNat) (Wd.cut n a) na / ab (2 ^ n.toNat) (Wd.cut n b) nb ∧ Wd.tr 3 n a b = 0) ∧
    (na ≠ nb → Wd.bz 3 n a b = (2 ^ n.toNat - ab (2 ^ n.toNat) (Wd.cut n a) na / ab (2 ^ n.toNat) (Wd.cut n b) nb) % 2 ^ n.toNat ∧ Wd.tr 3 n a b = 0) ∧
    ab (2 ^ n.toNat) (Wd.cut n b) nb ≠ 0 ∧ ab (2 ^ n.toNat) (Wd.cut n a) na < 2 ^ n.toNat ∧ ab (2 ^ n.toNat) (Wd.cut n b) nb < 2 ^ n.toNat := by
  rw [rb_tops h ha] at ena
  rw [rb_tops h hb] at enb
  obtain ⟨d1, d2, d3, d4, d5, d6⟩ := divs_num h (Wd.cut_lt h ha) (Wd.cut_lt h hb) (md_two h) h0
  rw [ena] at d1 d2 d3 d5
  rw [enb] at d1 d2 d3 d4 d6
  rw [← Wd.md_pow h]
  refine ⟨fun e q => ?_, fun e q => ?_, fun e => ?_, d4, d5, d6⟩
  · rw [if_pos ⟨e, q⟩] at d1
    exact ⟨by unfold Wd.bz; rw [if_neg (by rw [d1]; decide)], d1⟩
  · rw [if_neg (fun z => q z.2)] at d1
    exact ⟨by unfold Wd.bz; rw [if_pos d1, d2 d1]; unfold dq; rw [if_pos e], d1⟩
  · rw [if_neg (fun z => e z.1)] at d1
    exact ⟨by unfold Wd.bz; rw [if_pos d1, d2 d1]; unfold dq; rw [if_neg e], d1⟩
set_option maxHeartbeats 4000000 in
set_option maxRecDepth 100000 in
theorem RB_3_32_z (a b : Nat) (w : World) (ha : a < 18446744073709551616) (hb : b < 18446744073709551616) (h0 : Wd.cut 32 b = 0) :
    Calls Try.prog 11 #[.int .i64 3, .int .i64 32, .int .u64 a, .int .u64 b] w fun e w' => e = .returned (.tuple #[.int .u64 ((Wd.bz 3 32 a b : Nat) : Int), .int .i64 ((Wd.tr 3 32 a b : Nat) : Int)]) ∧ Below w.heap.size w w' := by
  have hX : Wd.cut 32 a < 2 ^ 32 := Wd.cut_lt (n := 32) (.inl rfl) ha
  have hY : Wd.cut 32 b < 2 ^ 32 := Wd.cut_lt (n := 32) (.inl rfl) hb
  have L1 : Hid (∀ W : World, Calls Try.prog 19 #[.int .i64 32, .int .u64 a] W (LPost W.heap.size 32 (bt (Wd.cut 32 a)) W)) := Lib.hid (fun W => (List_any 32 a W (by decide) (by decide) ha).mono fun e w' h => h.is (vl_cut 32 a (.inl rfl) ha))
  have L2 : Hid (∀ W : World, Calls Try.prog 19 #[.int .i64 32, .int .u64 b] W (LPost W.heap.size 32 (bt (Wd.cut 32 b)) W)) := Lib.hid (fun W => (List_any 32 b W (by decide) (by decide) hb).mono fun e w' h => h.is (vl_cut 32 b (.inl rfl) hb))
  have HR := Lib.hid (rbz (op := 3) (n := 32) (a := a) (b := b) (by decide) (by decide) h0)
  rw [HR.out.1, HR.out.2]
  rw [h0] at hY L2
  have ZZ : Hid (∀ (W : World) (g c : Nat), 32 ≤ c → c ≤ 9223372036854775807 → Bo W g 32 (bt 0) → Calls Try.prog 24 #[.slice (some ⟨g, 0, none⟩) 32 c] W fun e w' => e = .returned (.bool true) ∧ W = w') := Lib.hid (fun W g c a1 a2 b1 => Zero_v g c 32 0 W (by decide) a1 a2 hY b1)
  have WY : Hid (∀ (W : World) (g c : Nat), 32 ≤ c → c ≤ 9223372036854775807 → Bo W g 32 (bt 0) → Calls Try.prog 20 #[.slice (some ⟨g, 0, none⟩) 32 c] W fun e w' => e = .returned (.int .u64 0) ∧ W = w') := Lib.hid (fun W g c a1 a2 b1 => Word_v g c 32 0 W (by decide) a1 a2 hY b1)
  clear hX hY HR ha hb h0
  go_enter Try.func11, Try.ntmps11
  go_wp2_with (first
    | (go_at_call 19; with_reducible refine (L1.out _).mono ?_; rintro e w1 hL; unfold LPost at hL; obtain ⟨g1, c1, rfl, n1, m1, b1, k1, h1⟩ := hL; have P1 := Lib.hid b1; have B1 := Lib.hid h1; clear b1 k1 h1)
    | (go_at_call 19; with_reducible refine (L2.out _).mono ?_; rintro e w2 hL; unfold LPost at hL; obtain ⟨g2, c2, rfl, n2, m2, b2, k2, h2⟩ := hL; have P2 := Lib.hid b2; have P1' := Lib.hid (P1.out.below h2 P1.out.lt); have B2 := Lib.hid (B1.out.trans (h2.mono B1.out.size)); clear b2 k2 h2)
    | (go_at_call 20; with_reducible refine (WY.out _ _ _ n2 m2 P2.out).mono ?_; rintro e w3 ⟨rfl, rfl⟩)
    | (go_at_call 24; with_reducible refine (ZZ.out _ _ _ n2 m2 P2.out).mono ?_; rintro e w3 ⟨rfl, rfl⟩))
  go_ret2
  exact ⟨rfl, B2.out⟩
set_option maxHeartbeats 4000000 in
set_option maxRecDepth 100000 in
theorem RB_4_32_z (a b : Nat) (w : World) (ha : a < 18446744073709551616) (hb : b < 18446744073709551616) (h0 : Wd.cut 32 b = 0) :
    Calls Try.prog 11 #[.int .i64 4, .int .i64 32, .int .u64 a, .int .u64 b] w fun e w' => e = .returned (.tuple #[.int .u64 ((Wd.bz 4 32 a b : Nat) : Int), .int .i64 ((Wd.tr 4 32 a b : Nat) : Int)]) ∧ Below w.heap.size w w' := by
  have hX : Wd.cut 32 a < 2 ^ 32 := Wd.cut_lt (n := 32) (.inl rfl) ha
  have hY : Wd.cut 32 b < 2 ^ 32 := Wd.cut_lt (n := 32) (.inl rfl) hb
  have L1 : Hid (∀ W : World, Calls Try.prog 19 #[.int .i64 32, .int .u64 a] W (LPost W.heap.size 32 (bt (Wd.cut 32 a)) W)) := Lib.hid (fun W => (List_any 32 a W (by decide) (by decide) ha).mono fun e w' h => h.is (vl_cut 32 a (.inl rfl) ha))
  have L2 : Hid (∀ W : World, Calls Try.prog 19 #[.int .i64 32, .int .u64 b] W (LPost W.heap.size 32 (bt (Wd.cut 32 b)) W)) := Lib.hid (fun W => (List_any 32 b W (by decide) (by decide) hb).mono fun e w' h => h.is (vl_cut 32 b (.inl rfl) hb))
  have HR := Lib.hid (rbz (op := 4) (n := 32) (a := a) (b := b) (by decide) (by decide) h0)
  rw [HR.out.1, HR.out.2]
  rw [h0] at hY L2
  have ZZ : Hid (∀ (W : World) (g c : Nat), 32 ≤ c → c ≤ 9223372036854775807 → Bo W g 32 (bt 0) → Calls Try.prog 24 #[.slice (some ⟨g, 0, none⟩) 32 c] W fun e w' => e = .returned (.bool true) ∧ W = w') := Lib.hid (fun W g c a1 a2 b1 => Zero_v g c 32 0 W (by decide) a1 a2 hY b1)
  have WY : Hid (∀ (W : World) (g c : Nat), 32 ≤ c → c ≤ 9223372036854775807 → Bo W g 32 (bt 0) → Calls Try.prog 20 #[.slice (some ⟨g, 0, none⟩) 32 c] W fun e w' => e = .returned (.int .u64 0) ∧ W = w') := Lib.hid (fun W g c a1 a2 b1 => Word_v g c 32 0 W (by decide) a1 a2 hY b1)
  clear hX hY HR ha hb h0
  go_enter Try.func11, Try.ntmps11
  go_wp2_with (first
    | (go_at_call 19; with_reducible refine (L1.out _).mono ?_; rintro e w1 hL; unfold LPost at hL; obtain ⟨g1, c1, rfl, n1, m1, b1, k1, h1⟩ := hL; have P1 := Lib.hid b1; have B1 := Lib.hid h1; clear b1 k1 h1)
    | (go_at_call 19; with_reducible refine (L2.out _).mono ?_; rintro e w2 hL; unfold LPost at hL; obtain ⟨g2, c2, rfl, n2, m2, b2, k2, h2⟩ := hL; have P2 := Lib.hid b2; have P1' := Lib.hid (P1.out.below h2 P1.out.lt); have B2 := Lib.hid (B1.out.trans (h2.mono B1.out.size)); clear b2 k2 h2)
    | (go_at_call 20; with_reducible refine (WY.out _ _ _ n2 m2 P2.out).mono ?_; rintro e w3 ⟨rfl, rfl⟩)
    | (go_at_call 24; with_reducible refine (ZZ.out _ _ _ n2 m2 P2.out).mono ?_; rintro e w3 ⟨rfl, rfl⟩))
  go_ret2
  exact ⟨rfl, B2.out⟩
set_option maxHeartbeats 4000000 in
set_option maxRecDepth 100000 in
theorem RB_5_32_z (a b : Nat) (w : World) (ha : a < 18446744073709551616) (hb : b < 18446744073709551616) (h0 : Wd.cut 32 b = 0) :
    Calls Try.prog 11 #[.int .i64 5, .int .i64 32, .int .u64 a, .int .u64 b] w fun e w' => e = .returned (.tuple #[.int .u64 ((Wd.bz 5 32 a b : Nat) : Int), .int .i64 ((Wd.tr 5 32 a b : Nat) : Int)]) ∧ Below w.heap.size w w' := by
  have hX : Wd.cut 32 a < 2 ^ 32 := Wd.cut_lt (n := 32) (.inl rfl) ha
  have hY : Wd.cut 32 b < 2 ^ 32 := Wd.cut_lt (n := 32) (.inl rfl) hb
  have L1 : Hid (∀ W : World, Calls Try.prog 19 #[.int .i64 32, .int .u64 a] W (LPost W.heap.size 32 (bt (Wd.cut 32 a)) W)) := Lib.hid (fun W => (List_any 32 a W (by decide) (by decide) ha).mono fun e w' h => h.is (vl_cut 32 a (.inl rfl) ha))
  have L2 : Hid (∀ W : World, Calls Try.prog 19 #[.int .i64 32, .int .u64 b] W (LPost W.heap.size 32 (bt (Wd.cut 32 b)) W)) := Lib.hid (fun W => (List_any 32 b W (by decide) (by decide) hb).mono fun e w' h => h.is (vl_cut 32 b (.inl rfl) hb))
  have HR := Lib.hid (rbz (op := 5) (n := 32) (a := a) (b := b) (by decide) (by decide) h0)
  rw [HR.out.1, HR.out.2]
  rw [h0] at hY L2
  have ZZ : Hid (∀ (W : World) (g c : Nat), 32 ≤ c → c ≤ 9223372036854775807 → Bo W g 32 (bt 0) → Calls Try.prog 24 #[.slice (some ⟨g, 0, none⟩) 32 c] W fun e w' => e = .returned (.bool true) ∧ W = w') := Lib.hid (fun W g c a1 a2 b1 => Zero_v g c 32 0 W (by decide) a1 a2 hY b1)
  have WY : Hid (∀ (W : World) (g c : Nat), 32 ≤ c → c ≤ 9223372036854775807 → Bo W g 32 (bt 0) → Calls Try.prog 20 #[.slice (some ⟨g, 0, none⟩) 32 c] W fun e w' => e = .returned (.int .u64 0) ∧ W = w') := Lib.hid (fun W g c a1 a2 b1 => Word_v g c 32 0 W (by decide) a1 a2 hY b1)
  clear hX hY HR ha hb h0
  go_enter Try.func11, Try.ntmps11
  go_wp2_with (first
    | (go_at_call 19; with_reducible refine (L1.out _).mono ?_; rintro e w1 hL; unfold LPost at hL; obtain ⟨g1, c1, rfl, n1, m1, b1, k1, h1⟩ := hL; have P1 := Lib.hid b1; have B1 := Lib.hid h1; clear b1 k1 h1)
    | (go_at_call 19; with_reducible refine (L2.out _).mono ?_; rintro e w2 hL; unfold LPost at hL; obtain ⟨g2, c2, rfl, n2, m2, b2, k2, h2⟩ := hL; have P2 := Lib.hid b2; have P1' := Lib.hid (P1.out.below h2 P1.out.lt); have B2 := Lib.hid (B1.out.trans (h2.mono B1.out.size)); clear b2 k2 h2)
    | (go_at_call 20; with_reducible refine (WY.out _ _ _ n2 m2 P2.out).mono ?_; rintro e w3 ⟨rfl, rfl⟩)
    | (go_at_call 24; with_reducible refine (ZZ.out _ _ _ n2 m2 P2.out).mono ?_; rintro e w3 ⟨rfl, rfl⟩))
  go_ret2
  exact ⟨rfl, B2.out⟩
set_option maxHeartbeats 4000000 in
set_option maxRecDepth 100000 in
theorem RB_6_32_z (a b : Nat) (w : World) (ha : a < 18446744073709551616) (hb : b < 18446744073709551616) (h0 : Wd.cut 32 b = 0) :
    Calls Try.prog 11 #[.int .i64 6, .int .i64 32, .int .u64 a, .int .u64 b] w fun e w' => e = .returned (.tuple #[.int .u64 ((Wd.bz 6 32 a b : Nat) : Int), .int .i64 ((Wd.tr 6 32 a b : Nat) : Int)]) ∧ Below w.heap.size w w' := by
  have hX : Wd.cut 32 a < 2 ^ 32 := Wd.cut_lt (n := 32) (.inl rfl) ha
  have hY : Wd.cut 32 b < 2 ^ 32 := Wd.cut_lt (n := 32) (.inl rfl) hb
  have L1 : Hid (∀ W : World, Calls Try.prog 19 #[.int .i64 32, .int .u64 a] W (LPost W.heap.size 32 (bt (Wd.cut 32 a)) W)) := Lib.hid (fun W => (List_any 32 a W (by decide) (by decide) ha).mono fun e w' h => h.is (vl_cut 32 a (.inl rfl) ha))
  have L2 : Hid (∀ W : World, Calls Try.prog 19 #[.int .i64 32, .int .u64 b] W (LPost W.heap.size 32 (bt (Wd.cut 32 b)) W)) := Lib.hid (fun W => (List_any 32 b W (by decide) (by decide) hb).mono fun e w' h => h.is (vl_cut 32 b (.inl rfl) hb))
  have HR := Lib.hid (rbz (op := 6) (n := 32) (a := a) (b := b) (by decide) (by decide) h0)
  rw [HR.out.1, HR.out.2]
  rw [h0] at hY L2
  have ZZ : Hid (∀ (W : World) (g c : Nat), 32 ≤ c → c ≤ 9223372036854775807 → Bo W g 32 (bt 0) → Calls Try.prog 24 #[.slice (some ⟨g, 0, none⟩) 32 c] W fun e w' => e = .returned (.bool true) ∧ W = w') := Lib.hid (fun W g c a1 a2 b1 => Zero_v g c 32 0 W (by decide) a1 a2 hY b1)
  have WY : Hid (∀ (W : World) (g c : Nat), 32 ≤ c → c ≤ 9223372036854775807 → Bo W g 32 (bt 0) → Calls Try.prog 20 #[.slice (some ⟨g, 0, none⟩) 32 c] W fun e w' => e = .returned (.int .u64 0) ∧ W = w') := Lib.hid (fun W g c a1 a2 b1 => Word_v g c 32 0 W (by decide) a1 a2 hY b1)
  clear hX hY HR ha hb h0
  go_enter Try.func11, Try.ntmps11
  go_wp2_with (first
    | (go_at_call 19; with_reducible refine (L1.out _).mono ?_; rintro e w1 hL; unfold LPost at hL; obtain ⟨g1, c1, rfl, n1, m1, b1, k1, h1⟩ := hL; have P1 := Lib.hid b1; have B1 := Lib.hid h1; clear b1 k1 h1)
    | (go_at_call 19; with_reducible refine (L2.out _).mono ?_; rintro e w2 hL; unfold LPost at hL; obtain ⟨g2, c2, rfl, n2, m2, b2, k2, h2⟩ := hL; have P2 := Lib.hid b2; have P1' := Lib.hid (P1.out.below h2 P1.out.lt); have B2 := Lib.hid (B1.out.trans (h2.mono B1.out.size)); clear b2 k2 h2)
    | (go_at_call 20; with_reducible refine (WY.out _ _ _ n2 m2 P2.out).mono ?_; rintro e w3 ⟨rfl, rfl⟩)
    | (go_at_call 24; with_reducible refine (ZZ.out _ _ _ n2 m2 P2.out).mono ?_; rintro e w3 ⟨rfl, rfl⟩))
  go_ret2
  exact ⟨rfl, B2.out⟩
set_option maxHeartbeats 4000000 in
set_option maxRecDepth 100000 in
theorem RB_4_32_n (a b : Nat) (w : World) (ha : a < 18446744073709551616) (hb : b < 18446744073709551616) (h0 : Wd.cut 32 b ≠ 0) :
    Calls Try.prog 11 #[.int .i64 4, .int .i64 32, .int .u64 a, .int .u64 b] w fun e w' => e = .returned (.tuple #[.int .u64 ((Wd.bz 4 32 a b : Nat) : Int), .int .i64 ((Wd.tr 4 32 a b : Nat) : Int)]) ∧ Below w.heap.size w w' := by
  have hX : Wd.cut 32 a < 2 ^ 32 := Wd.cut_lt (n := 32) (.inl rfl) ha
  have hY : Wd.cut 32 b < 2 ^ 32 := Wd.cut_lt (n := 32) (.inl rfl) hb
  have L1 : Hid (∀ W : World, Calls Try.prog 19 #[.int .i64 32, .int .u64 a] W (LPost W.heap.size 32 (bt (Wd.cut 32 a)) W)) := Lib.hid (fun W => (List_any 32 a W (by decide) (by decide) ha).mono fun e w' h => h.is (vl_cut 32 a (.inl rfl) ha))
  have L2 : Hid (∀ W : World, Calls Try.prog 19 #[.int .i64 32, .int .u64 b] W (LPost W.heap.size 32 (bt (Wd.cut 32 b)) W)) := Lib.hid (fun W => (List_any 32 b W (by decide) (by decide) hb).mono fun e w' h => h.is (vl_cut 32 b (.inl rfl) hb))
  have HR0 := Lib.hid (rb_46 (n := 32) (a := a) (b := b) h0).1
  rw [HR0.out.1, HR0.out.2]
  clear HR0
  generalize Wd.cut 32 a = X at hX L1
  generalize Wd.cut 32 b = Y at hY L2 h0
  have hA := hX
  have hB := hY
  have hB0 := h0
  have hk : Y % 32 < 32 := Nat.mod_lt _ (by decide)
  have kk : (Y : Int) % 32 = ((Y % 32 : Nat) : Int) := by omega
  have kt : (Y : Int).tmod 32 = ((Y % 32 : Nat) : Int) := by rw [Int.tmod_eq_emod_of_nonneg (by omega)]; omega
  obtain ⟨k, ek⟩ : ∃ k, k = Y % 32 := ⟨_, rfl⟩
  rw [← ek] at hk kk kt
  have hYb : (Y : Int) < 18446744073709551616 := by omega
  have WY : Hid (∀ (W : World) (g c : Nat), 32 ≤ c → c ≤ 9223372036854775807 → Bo W g 32 (bt Y) → Calls Try.prog 20 #[.slice (some ⟨g, 0, none⟩) 32 c] W fun e w' => e = .returned (.int .u64 (Y : Int)) ∧ W = w') := Lib.hid (fun W g c a1 a2 b1 => Word_v g c 32 Y W (by decide) a1 a2 hY b1)
  have ZZ : Hid (∀ (W : World) (g c : Nat), 32 ≤ c → c ≤ 9223372036854775807 → Bo W g 32 (bt Y) → Calls Try.prog 24 #[.slice (some ⟨g, 0, none⟩) 32 c] W fun e w' => e = .returned (.bool false) ∧ W = w') := Lib.hid (fun W g c a1 a2 b1 => by
    have := Zero_v g c 32 Y W (by decide) a1 a2 hY b1
    rw [decide_eq_false h0] at this; exact this)
  have CD : Hid (∀ (W : World) (g1 c1 g2 c2 : Nat), 32 ≤ c1 → c1 ≤ 9223372036854775807 → 32 ≤ c2 → c2 ≤ 9223372036854775807 → Bo W g1 32 (bt X) → Bo W g2 32 (bt Y) → Calls Try.prog 26 #[.slice (some ⟨g1, 0, none⟩) 32 c1, .slice (some ⟨g2, 0, none⟩) 32 c2] W (DPost W.heap.size 32 X Y W)) := Lib.hid (fun W g1 c1 g2 c2 a1 a2 a3 a4 p1 p2 => Divide_v g1 c1 g2 c2 32 X Y W (by decide) (by decide) a1 a3 a2 a4 hA hB hB0 p1 p2)
  obtain ⟨R, eR⟩ : ∃ R, R = X / Y := ⟨_, rfl⟩
  have hR : R < 2 ^ 32 := by rw [eR]; exact Nat.lt_of_le_of_lt (Nat.div_le_self _ _) hX
  have WR : Hid (∀ (W : World) (g c : Nat), 32 ≤ c → c ≤ 9223372036854775807 → Bo W g 32 (bt R) → Calls Try.prog 20 #[.slice (some ⟨g, 0, none⟩) 32 c] W fun e w' => e = .returned (.int .u64 (R : Int)) ∧ W = w') := Lib.hid (fun W g c a1 a2 b1 => Word_v g c 32 R W (by decide) a1 a2 hR b1)
  have ER := Lib.hid eR
  rw [← eR]
  clear hX hA hB hB0 hR ek eR ha hb h0
  go_enter Try.func11, Try.ntmps11
  go_wp2_with (first
    | (go_at_call 19; with_reducible refine (L1.out _).mono ?_; rintro e w1 hL; unfold LPost at hL; obtain ⟨g1, c1, rfl, n1, m1, b1, k1, h1⟩ := hL; have P1 := Lib.hid b1; have B1 := Lib.hid h1; clear b1 k1 h1)
    | (go_at_call 19; with_reducible refine (L2.out _).mono ?_; rintro e w2 hL; unfold LPost at hL; obtain ⟨g2, c2, rfl, n2, m2, b2, k2, h2⟩ := hL; have P2 := Lib.hid b2; have P1' := Lib.hid (P1.out.below h2 P1.out.lt); have B2 := Lib.hid (B1.out.trans (h2.mono B1.out.size)); clear b2 k2 h2)
    | (go_at_call 20; with_reducible refine (WY.out _ _ _ n2 m2 P2.out).mono ?_; rintro e w3 ⟨rfl, rfl⟩)
    | (go_at_call 24; with_reducible refine (ZZ.out _ _ _ n2 m2 P2.out).mono ?_; rintro e w3 ⟨rfl, rfl⟩))
  go_quiet (fail)
  go_wp2_with (first
    | (go_at_call 26; with_reducible refine (CD.out _ _ _ _ _ n1 m1 n2 m2 (P1'.out.drewN _) (P2.out.drewN _)).mono ?_; rintro e w4 hL; unfold DPost at hL; obtain ⟨gq, gr, cr, rfl, n3, m3, bq, br, kq, kr, h3⟩ := hL; have Q := Lib.hid bq; have S := Lib.hid br; have B3 := Lib.hid ((drew_below B2.out _).trans (h3.mono (drew_below B2.out _).size)); clear bq br kq kr h3)
    | (go_at_call 20; with_reducible refine (WR.out _ _ _ (Nat.le_refl _) (by decide) (by rw [ER.out]; exact Q.out)).mono ?_; rintro e w5 ⟨rfl, rfl⟩))
  go_ret2
  exact ⟨rfl, B3.out⟩
set_option maxHeartbeats 4000000 in
set_option maxRecDepth 100000 in
theorem RB_6_32_n (a b : Nat) (w : World) (ha : a < 18446744073709551616) (hb : b < 18446744073709551616) (h0 : Wd.cut 32 b ≠ 0) :
    Calls Try.prog 11 #[.int .i64 6, .int .i64 32, .int .u64 a, .int .u64 b] w fun e w' => e = .returned (.tuple #[.int .u64 ((Wd.bz 6 32 a b : Nat) : Int), .int .i64 ((Wd.tr 6 32 a b : Nat) : Int)]) ∧ Below w.heap.size w w' := by
  have hX : Wd.cut 32 a < 2 ^ 32 := Wd.cut_lt (n := 32) (.inl rfl) ha
  have hY : Wd.cut 32 b < 2 ^ 32 := Wd.cut_lt (n := 32) (.inl rfl) hb
  have L1 : Hid (∀ W : World, Calls Try.prog 19 #[.int .i64 32, .int .u64 a] W (LPost W.heap.size 32 (bt (Wd.cut 32 a)) W)) := Lib.hid (fun W => (List_any 32 a W (by decide) (by decide) ha).mono fun e w' h => h.is (vl_cut 32 a (.inl rfl) ha))
  have L2 : Hid (∀ W : World, Calls Try.prog 19 #[.int .i64 32, .int .u64 b] W (LPost W.heap.size 32 (bt (Wd.cut 32 b)) W)) := Lib.hid (fun W => (List_any 32 b W (by decide) (by decide) hb).mono fun e w' h => h.is (vl_cut 32 b (.inl rfl) hb))
  have HR0 := Lib.hid (rb_46 (n := 32) (a := a) (b := b) h0).2
  rw [HR0.out.1, HR0.out.2]
  clear HR0
  generalize Wd.cut 32 a = X at hX L1
  generalize Wd.cut 32 b = Y at hY L2 h0
  have hA := hX
  have hB := hY
  have hB0 := h0
  have hk : Y % 32 < 32 := Nat.mod_lt _ (by decide)
  have kk : (Y : Int) % 32 = ((Y % 32 : Nat) : Int) := by omega
  have kt : (Y : Int).tmod 32 = ((Y % 32 : Nat) : Int) := by rw [Int.tmod_eq_emod_of_nonneg (by omega)]; omega
  obtain ⟨k, ek⟩ : ∃ k, k = Y % 32 := ⟨_, rfl⟩
  rw [← ek] at hk kk kt
  have hYb : (Y : Int) < 18446744073709551616 := by omega
  have WY : Hid (∀ (W : World) (g c : Nat), 32 ≤ c → c ≤ 9223372036854775807 → Bo W g 32 (bt Y) → Calls Try.prog 20 #[.slice (some ⟨g, 0, none⟩) 32 c] W fun e w' => e = .returned (.int .u64 (Y : Int)) ∧ W = w') := Lib.hid (fun W g c a1 a2 b1 => Word_v g c 32 Y W (by decide) a1 a2 hY b1)
  have ZZ : Hid (∀ (W : World) (g c : Nat), 32 ≤ c → c ≤ 9223372036854775807 → Bo W g 32 (bt Y) → Calls Try.prog 24 #[.slice (some ⟨g, 0, none⟩) 32 c] W fun e w' => e = .returned (.bool false) ∧ W = w') := Lib.hid (fun W g c a1 a2 b1 => by
    have := Zero_v g c 32 Y W (by decide) a1 a2 hY b1
    rw [decide_eq_false h0] at this; exact this)
  have CD : Hid (∀ (W : World) (g1 c1 g2 c2 : Nat), 32 ≤ c1 → c1 ≤ 9223372036854775807 → 32 ≤ c2 → c2 ≤ 9223372036854775807 → Bo W g1 32 (bt X) → Bo W g2 32 (bt Y) → Calls Try.prog 26 #[.slice (some ⟨g1, 0, none⟩) 32 c1, .slice (some ⟨g2, 0, none⟩) 32 c2] W (DPost W.heap.size 32 X Y W)) := Lib.hid (fun W g1 c1 g2 c2 a1 a2 a3 a4 p1 p2 => Divide_v g1 c1 g2 c2 32 X Y W (by decide) (by decide) a1 a3 a2 a4 hA hB hB0 p1 p2)
  obtain ⟨R, eR⟩ : ∃ R, R = X % Y := ⟨_, rfl⟩
  have hR : R < 2 ^ 32 := by rw [eR]; exact Nat.lt_of_le_of_lt (Nat.mod_le _ _) hX
  have WR : Hid (∀ (W : World) (g c : Nat), 32 ≤ c → c ≤ 9223372036854775807 → Bo W g 32 (bt R) → Calls Try.prog 20 #[.slice (some ⟨g, 0, none⟩) 32 c] W fun e w' => e = .returned (.int .u64 (R : Int)) ∧ W = w') := Lib.hid (fun W g c a1 a2 b1 => Word_v g c 32 R W (by decide) a1 a2 hR b1)
  have ER := Lib.hid eR
  rw [← eR]
  clear hX hA hB hB0 hR ek eR ha hb h0
  go_enter Try.func11, Try.ntmps11
  go_wp2_with (first
    | (go_at_call 19; with_reducible refine (L1.out _).mono ?_; rintro e w1 hL; unfold LPost at hL; obtain ⟨g1, c1, rfl, n1, m1, b1, k1, h1⟩ := hL; have P1 := Lib.hid b1; have B1 := Lib.hid h1; clear b1 k1 h1)
    | (go_at_call 19; with_reducible refine (L2.out _).mono ?_; rintro e w2 hL; unfold LPost at hL; obtain ⟨g2, c2, rfl, n2, m2, b2, k2, h2⟩ := hL; have P2 := Lib.hid b2; have P1' := Lib.hid (P1.out.below h2 P1.out.lt); have B2 := Lib.hid (B1.out.trans (h2.mono B1.out.size)); clear b2 k2 h2)
    | (go_at_call 20; with_reducible refine (WY.out _ _ _ n2 m2 P2.out).mono ?_; rintro e w3 ⟨rfl, rfl⟩)
    | (go_at_call 24; with_reducible refine (ZZ.out _ _ _ n2 m2 P2.out).mono ?_; rintro e w3 ⟨rfl, rfl⟩))
  go_quiet (fail)
  go_wp2_with (first
    | (go_at_call 26; with_reducible refine (CD.out _ _ _ _ _ n1 m1 n2 m2 (P1'.out.drewN _) (P2.out.drewN _)).mono ?_; rintro e w4 hL; unfold DPost at hL; obtain ⟨gq, gr, cr, rfl, n3, m3, bq, br, kq, kr, h3⟩ := hL; have Q := Lib.hid bq; have S := Lib.hid br; have B3 := Lib.hid ((drew_below B2.out _).trans (h3.mono (drew_below B2.out _).size)); clear bq br kq kr h3)
    | (go_at_call 20; with_reducible refine (WR.out _ _ _ n3 m3 (by rw [ER.out]; exact S.out)).mono ?_; rintro e w5 ⟨rfl, rfl⟩))
  go_ret2
  exact ⟨rfl, B3.out⟩
set_option maxHeartbeats 4000000 in
set_option maxRecDepth 100000 in
theorem RB_5_32_ff (a b : Nat) (w : World) (ha : a < 18446744073709551616) (hb : b < 18446744073709551616) (h0 : Wd.cut 32 b ≠ 0) (ena : bt (Wd.cut 32 a) 31 = false) (enb : bt (Wd.cut 32 b) 31 = false) :
    Calls Try.prog 11 #[.int .i64 5, .int .i64 32, .int .u64 a, .int .u64 b] w fun e w' => e = .returned (.tuple #[.int .u64 ((Wd.bz 5 32 a b : Nat) : Int), .int .i64 ((Wd.tr 5 32 a b : Nat) : Int)]) ∧ Below w.heap.size w w' := by
  have hX : Wd.cut 32 a < 2 ^ 32 := Wd.cut_lt (n := 32) (.inl rfl) ha
  have hY : Wd.cut 32 b < 2 ^ 32 := Wd.cut_lt (n := 32) (.inl rfl) hb
  have L1 : Hid (∀ W : World, Calls Try.prog 19 #[.int .i64 32, .int .u64 a] W (LPost W.heap.size 32 (bt (Wd.cut 32 a)) W)) := Lib.hid (fun W => (List_any 32 a W (by decide) (by decide) ha).mono fun e w' h => h.is (vl_cut 32 a (.inl rfl) ha))
  have L2 : Hid (∀ W : World, Calls Try.prog 19 #[.int .i64 32, .int .u64 b] W (LPost W.heap.size 32 (bt (Wd.cut 32 b)) W)) := Lib.hid (fun W => (List_any 32 b W (by decide) (by decide) hb).mono fun e w' h => h.is (vl_cut 32 b (.inl rfl) hb))
  obtain ⟨r1, r2, hB0, hA, hB⟩ := rb_5 (n := 32) (.inl rfl) ha hb h0 ena enb
  have r1 : Wd.bz 5 32 a b = ab (2 ^ 32) (Wd.cut 32 a) false % ab (2 ^ 32) (Wd.cut 32 b) false := r1
  have hA : ab (2 ^ 32) (Wd.cut 32 a) false < 2 ^ 32 := hA
  have hB : ab (2 ^ 32) (Wd.cut 32 b) false < 2 ^ 32 := hB
  have hB0 : ab (2 ^ 32) (Wd.cut 32 b) false ≠ 0 := hB0
  rw [r1, r2]
  clear r1 r2
  generalize Wd.cut 32 a = X at hX L1 ena hA ⊢
  generalize Wd.cut 32 b = Y at hY L2 h0 enb hB hB0 ⊢
  obtain ⟨N1v, eN1⟩ : ∃ z, z = X := ⟨_, rfl⟩
  have eN1v' : ab (2 ^ 32) X false = N1v := by rw [eN1]; rfl
  obtain ⟨N2v, eN2⟩ : ∃ z, z = Y := ⟨_, rfl⟩
  have eN2v' : ab (2 ^ 32) Y false = N2v := by rw [eN2]; rfl
  simp only [eN1v', eN2v'] at hA hB hB0 ⊢
  have hk : Y % 32 < 32 := Nat.mod_lt _ (by decide)
  have kk : (Y : Int) % 32 = ((Y % 32 : Nat) : Int) := by omega
  have kt : (Y : Int).tmod 32 = ((Y % 32 : Nat) : Int) := by rw [Int.tmod_eq_emod_of_nonneg (by omega)]; omega
  obtain ⟨k, ek⟩ : ∃ k, k = Y % 32 := ⟨_, rfl⟩
  rw [← ek] at hk kk kt
  have hYb : (Y : Int) < 18446744073709551616 := by omega
  have WY : Hid (∀ (W : World) (g c : Nat), 32 ≤ c → c ≤ 9223372036854775807 → Bo W g 32 (bt Y) → Calls Try.prog 20 #[.slice (some ⟨g, 0, none⟩) 32 c] W fun e w' => e = .returned (.int .u64 (Y : Int)) ∧ W = w') := Lib.hid (fun W g c a1 a2 b1 => Word_v g c 32 Y W (by decide) a1 a2 hY b1)
  have ZZ : Hid (∀ (W : World) (g c : Nat), 32 ≤ c → c ≤ 9223372036854775807 → Bo W g 32 (bt Y) → Calls Try.prog 24 #[.slice (some ⟨g, 0, none⟩) 32 c] W fun e w' => e = .returned (.bool false) ∧ W = w') := Lib.hid (fun W g c a1 a2 b1 => by
    have := Zero_v g c 32 Y W (by decide) a1 a2 hY b1
    rw [decide_eq_false h0] at this; exact this)
  have CD : Hid (∀ (W : World) (g1 c1 g2 c2 : Nat), 32 ≤ c1 → c1 ≤ 9223372036854775807 → 32 ≤ c2 → c2 ≤ 9223372036854775807 → Bo W g1 32 (bt N1v) → Bo W g2 32 (bt N2v) → Calls Try.prog 26 #[.slice (some ⟨g1, 0, none⟩) 32 c1, .slice (some ⟨g2, 0, none⟩) 32 c2] W (DPost W.heap.size 32 N1v N2v W)) := Lib.hid (fun W g1 c1 g2 c2 a1 a2 a3 a4 p1 p2 => Divide_v g1 c1 g2 c2 32 N1v N2v W (by decide) (by decide) a1 a3 a2 a4 hA hB hB0 p1 p2)
  obtain ⟨D, eD⟩ : ∃ R, R = N1v % N2v := ⟨_, rfl⟩
  have hD : D < 2 ^ 32 := by rw [eD]; exact Nat.lt_of_le_of_lt (Nat.mod_le _ _) hA
  have ED := Lib.hid eD
  rw [← eD]
  have WR : Hid (∀ (W : World) (g c : Nat), 32 ≤ c → c ≤ 9223372036854775807 → Bo W g 32 (bt D) → Calls Try.prog 20 #[.slice (some ⟨g, 0, none⟩) 32 c] W fun e w' => e = .returned (.int .u64 (D : Int)) ∧ W = w') := Lib.hid (fun W g c a1 a2 b1 => Word_v g c 32 D W (by decide) a1 a2 hD b1)
  have ENA := Lib.hid ena
  have ENB := Lib.hid enb
  subst eN1
  subst eN2
  clear hX hY hA hB hB0 hD ek eD ha hb h0 ena enb eN1v' eN2v'
  go_enter Try.func11, Try.ntmps11
  go_wp2_with (first
    | (go_at_call 19; with_reducible refine (L1.out _).mono ?_; rintro e w1 hL; unfold LPost at hL; obtain ⟨g1, c1, rfl, n1, m1, b1, k1, h1⟩ := hL; have P1 := Lib.hid b1; have B1 := Lib.hid h1; clear b1 k1 h1)
    | (go_at_call 19; with_reducible refine (L2.out _).mono ?_; rintro e w2 hL; unfold LPost at hL; obtain ⟨g2, c2, rfl, n2, m2, b2, k2, h2⟩ := hL; have P2 := Lib.hid b2; have P1' := Lib.hid (P1.out.below h2 P1.out.lt); have B2 := Lib.hid (B1.out.trans (h2.mono B1.out.size)); have x1 : w2.cell? ⟨g1, 31, none⟩ = some (.bool false) := (P1'.out.at_ (by decide)).trans (by rw [ENA.out]); have x2 : w2.cell? ⟨g2, 31, none⟩ = some (.bool false) := (P2.out.at_ (by decide)).trans (by rw [ENB.out]); clear b2 k2 h2)
    | (go_at_call 20; with_reducible refine (WY.out _ _ _ n2 m2 P2.out).mono ?_; rintro e w3 ⟨rfl, rfl⟩)
    | (go_at_call 24; with_reducible refine (ZZ.out _ _ _ n2 m2 P2.out).mono ?_; rintro e w3 ⟨rfl, rfl⟩))
  go_quiet (fail)
  have T1 := Lib.hid (fun k => P1'.out.drewN k)
  have T2 := Lib.hid (fun k => P2.out.drewN k)
  have TB := Lib.hid (fun k => drew_below B2.out k)
  clear x1 x2
  go_wp2_with (first
    | (go_at_call 26; with_reducible refine (CD.out _ _ _ _ _ n1 m1 n2 m2 (T1.out _) (T2.out _)).mono ?_; rintro e w6 hL; unfold DPost at hL; obtain ⟨gq, gr, cr, rfl, n6, m6, bq, br, kq, kr, h6⟩ := hL; have Q := Lib.hid bq; have S := Lib.hid br; have B6 := Lib.hid ((TB.out _).trans (h6.mono (TB.out _).size)); clear bq br kq kr h6)
    | (go_at_call 20; with_reducible refine (WR.out _ _ _ n6 m6 (by rw [ED.out]; exact S.out)).mono ?_; rintro e w8 ⟨rfl, rfl⟩))
  go_ret2
  exact ⟨rfl, B6.out⟩
set_option maxHeartbeats 4000000 in
set_option maxRecDepth 100000 in
theorem RB_3_32_ff_y (a b : Nat) (w : World) (ha : a < 18446744073709551616) (hb : b < 18446744073709551616) (h0 : Wd.cut 32 b ≠ 0) (ena : bt (Wd.cut 32 a) 31 = false) (enb : bt (Wd.cut 32 b) 31 = false) (hq : 2 ^ 31 ≤ ab (2 ^ 32) (Wd.cut 32 a) false / ab (2 ^ 32) (Wd.cut 32 b) false) :
    Calls Try.prog 11 #[.int .i64 3, .int .i64 32, .int .u64 a, .int .u64 b] w fun e w' => e = .returned (.tuple #[.int .u64 ((Wd.bz 3 32 a b : Nat) : Int), .int .i64 ((Wd.tr 3 32 a b : Nat) : Int)]) ∧ Below w.heap.size w w' := by
  have hX : Wd.cut 32 a < 2 ^ 32 := Wd.cut_lt (n := 32) (.inl rfl) ha
  have hY : Wd.cut 32 b < 2 ^ 32 := Wd.cut_lt (n := 32) (.inl rfl) hb
  have L1 : Hid (∀ W : World, Calls Try.prog 19 #[.int .i64 32, .int .u64 a] W (LPost W.heap.size 32 (bt (Wd.cut 32 a)) W)) := Lib.hid (fun W => (List_any 32 a W (by decide) (by decide) ha).mono fun e w' h => h.is (vl_cut 32 a (.inl rfl) ha))
  have L2 : Hid (∀ W : World, Calls Try.prog 19 #[.int .i64 32, .int .u64 b] W (LPost W.heap.size 32 (bt (Wd.cut 32 b)) W)) := Lib.hid (fun W => (List_any 32 b W (by decide) (by decide) hb).mono fun e w' h => h.is (vl_cut 32 b (.inl rfl) hb))
  obtain ⟨q1, q2, q3, hB0, hA, hB⟩ := rb_3 (n := 32) (.inl rfl) ha hb h0 ena enb
  obtain ⟨r1, r2⟩ := q1 rfl hq
  clear q1 q2 q3
  have hA : ab (2 ^ 32) (Wd.cut 32 a) false < 2 ^ 32 := hA
  have hB : ab (2 ^ 32) (Wd.cut 32 b) false < 2 ^ 32 := hB
  have hB0 : ab (2 ^ 32) (Wd.cut 32 b) false ≠ 0 := hB0
  rw [r1, r2]
  clear r1 r2
  generalize Wd.cut 32 a = X at hX L1 ena hA hq ⊢
  generalize Wd.cut 32 b = Y at hY L2 h0 enb hB hB0 hq ⊢
  obtain ⟨N1v, eN1⟩ : ∃ z, z = X := ⟨_, rfl⟩
  have eN1v' : ab (2 ^ 32) X false = N1v := by rw [eN1]; rfl
  obtain ⟨N2v, eN2⟩ : ∃ z, z = Y := ⟨_, rfl⟩
  have eN2v' : ab (2 ^ 32) Y false = N2v := by rw [eN2]; rfl
  simp only [eN1v', eN2v'] at hA hB hB0 hq ⊢
  have hk : Y % 32 < 32 := Nat.mod_lt _ (by decide)
  have kk : (Y : Int) % 32 = ((Y % 32 : Nat) : Int) := by omega
  have kt : (Y : Int).tmod 32 = ((Y % 32 : Nat) : Int) := by rw [Int.tmod_eq_emod_of_nonneg (by omega)]; omega
  obtain ⟨k, ek⟩ : ∃ k, k = Y % 32 := ⟨_, rfl⟩
  rw [← ek] at hk kk kt
  have hYb : (Y : Int) < 18446744073709551616 := by omega
  have WY : Hid (∀ (W : World) (g c : Nat), 32 ≤ c → c ≤ 9223372036854775807 → Bo W g 32 (bt Y) → Calls Try.prog 20 #[.slice (some ⟨g, 0, none⟩) 32 c] W fun e w' => e = .returned (.int .u64 (Y : Int)) ∧ W = w') := Lib.hid (fun W g c a1 a2 b1 => Word_v g c 32 Y W (by decide) a1 a2 hY b1)
  have ZZ : Hid (∀ (W : World) (g c : Nat), 32 ≤ c → c ≤ 9223372036854775807 → Bo W g 32 (bt Y) → Calls Try.prog 24 #[.slice (some ⟨g, 0, none⟩) 32 c] W fun e w' => e = .returned (.bool false) ∧ W = w') := Lib.hid (fun W g c a1 a2 b1 => by
    have := Zero_v g c 32 Y W (by decide) a1 a2 hY b1
    rw [decide_eq_false h0] at this; exact this)
  have CD : Hid (∀ (W : World) (g1 c1 g2 c2 : Nat), 32 ≤ c1 → c1 ≤ 9223372036854775807 → 32 ≤ c2 → c2 ≤ 9223372036854775807 → Bo W g1 32 (bt N1v) → Bo W g2 32 (bt N2v) → Calls Try.prog 26 #[.slice (some ⟨g1, 0, none⟩) 32 c1, .slice (some ⟨g2, 0, none⟩) 32 c2] W (DPost W.heap.size 32 N1v N2v W)) := Lib.hid (fun W g1 c1 g2 c2 a1 a2 a3 a4 p1 p2 => Divide_v g1 c1 g2 c2 32 N1v N2v W (by decide) (by decide) a1 a3 a2 a4 hA hB hB0 p1 p2)
  obtain ⟨D, eD⟩ : ∃ R, R = N1v / N2v := ⟨_, rfl⟩
  have hD : D < 2 ^ 32 := by rw [eD]; exact Nat.lt_of_le_of_lt (Nat.div_le_self _ _) hA
  have ED := Lib.hid eD
  try rw [← eD] at hq
  have ETOP : Hid (bt D 31 = true) := Lib.hid (by rw [top_bit (n := 31) hD]; simp; exact hq)
  have ENA := Lib.hid ena
  have ENB := Lib.hid enb
  subst eN1
  subst eN2
  clear hX hY hA hB hB0 hD ek eD ha hb h0 ena enb eN1v' eN2v' hq
  go_enter Try.func11, Try.ntmps11
  go_wp2_with (first
    | (go_at_call 19; with_reducible refine (L1.out _).mono ?_; rintro e w1 hL; unfold LPost at hL; obtain ⟨g1, c1, rfl, n1, m1, b1, k1, h1⟩ := hL; have P1 := Lib.hid b1; have B1 := Lib.hid h1; clear b1 k1 h1)
    | (go_at_call 19; with_reducible refine (L2.out _).mono ?_; rintro e w2 hL; unfold LPost at hL; obtain ⟨g2, c2, rfl, n2, m2, b2, k2, h2⟩ := hL; have P2 := Lib.hid b2; have P1' := Lib.hid (P1.out.below h2 P1.out.lt); have B2 := Lib.hid (B1.out.trans (h2.mono B1.out.size)); have x1 : w2.cell? ⟨g1, 31, none⟩ = some (.bool false) := (P1'.out.at_ (by decide)).trans (by rw [ENA.out]); have x2 : w2.cell? ⟨g2, 31, none⟩ = some (.bool false) := (P2.out.at_ (by decide)).trans (by rw [ENB.out]); clear b2 k2 h2)
    | (go_at_call 20; with_reducible refine (WY.out _ _ _ n2 m2 P2.out).mono ?_; rintro e w3 ⟨rfl, rfl⟩)
    | (go_at_call 24; with_reducible refine (ZZ.out _ _ _ n2 m2 P2.out).mono ?_; rintro e w3 ⟨rfl, rfl⟩))
  go_quiet (fail)
  have T1 := Lib.hid (fun k => P1'.out.drewN k)
  have T2 := Lib.hid (fun k => P2.out.drewN k)
  have TB := Lib.hid (fun k => drew_below B2.out k)
  clear x1 x2
  go_wp2_with (first
    | (go_at_call 26; with_reducible refine (CD.out _ _ _ _ _ n1 m1 n2 m2 (T1.out _) (T2.out _)).mono ?_; rintro e w6 hL; unfold DPost at hL; obtain ⟨gq, gr, cr, rfl, n6, m6, bq, br, kq, kr, h6⟩ := hL; have x3 : w6.cell? ⟨gq, 31, none⟩ = some (.bool true) := (bq.at_ (by decide)).trans (by rw [← ED.out, ETOP.out]); have Q := Lib.hid bq; have S := Lib.hid br; have B6 := Lib.hid ((TB.out _).trans (h6.mono (TB.out _).size)); clear bq br kq kr h6))
  go_ret2
  exact ⟨rfl, B6.out⟩
set_option maxHeartbeats 4000000 in
set_option maxRecDepth 100000 in
theorem RB_3_32_ff_n (a b : Nat) (w : World) (ha : a < 18446744073709551616) (hb : b < 18446744073709551616) (h0 : Wd.cut 32 b ≠ 0) (ena : bt (Wd.cut 32 a) 31 = false) (enb : bt (Wd.cut 32 b) 31 = false) (hq : ¬ 2 ^ 31 ≤ ab (2 ^ 32) (Wd.cut 32 a) false / ab (2 ^ 32) (Wd.cut 32 b) false) :
    Calls Try.prog 11 #[.int .i64 3, .int .i64 32, .int .u64 a, .int .u64 b] w fun e w' => e = .returned (.tuple #[.int .u64 ((Wd.bz 3 32 a b : Nat) : Int), .int .i64 ((Wd.tr 3 32 a b : Nat) : Int)]) ∧ Below w.heap.size w w' := by
  have hX : Wd.cut 32 a < 2 ^ 32 := Wd.cut_lt (n := 32) (.inl rfl) ha
  have hY : Wd.cut 32 b < 2 ^ 32 := Wd.cut_lt (n := 32) (.inl rfl) hb
  have L1 : Hid (∀ W : World, Calls Try.prog 19 #[.int .i64 32, .int .u64 a] W (LPost W.heap.size 32 (bt (Wd.cut 32 a)) W)) := Lib.hid (fun W => (List_any 32 a W (by decide) (by decide) ha).mono fun e w' h => h.is (vl_cut 32 a (.inl rfl) ha))
  have L2 : Hid (∀ W : World, Calls Try.prog 19 #[.int .i64 32, .int .u64 b] W (LPost W.heap.size 32 (bt (Wd.cut 32 b)) W)) := Lib.hid (fun W => (List_any 32 b W (by decide) (by decide) hb).mono fun e w' h => h.is (vl_cut 32 b (.inl rfl) hb))
  obtain ⟨q1, q2, q3, hB0, hA, hB⟩ := rb_3 (n := 32) (.inl rfl) ha hb h0 ena enb
  obtain ⟨r1, r2⟩ := q2 rfl hq
  clear q1 q2 q3
  have r1 : Wd.bz 3 32 a b = ab (2 ^ 32) (Wd.cut 32 a) false / ab (2 ^ 32) (Wd.cut 32 b) false := r1
  have hA : ab (2 ^ 32) (Wd.cut 32 a) false < 2 ^ 32 := hA
  have hB : ab (2 ^ 32) (Wd.cut 32 b) false < 2 ^ 32 := hB
  have hB0 : ab (2 ^ 32) (Wd.cut 32 b) false ≠ 0 := hB0
  rw [r1, r2]
  clear r1 r2
  generalize Wd.cut 32 a = X at hX L1 ena hA hq ⊢
  generalize Wd.cut 32 b = Y at hY L2 h0 enb hB hB0 hq ⊢
  obtain ⟨N1v, eN1⟩ : ∃ z, z = X := ⟨_, rfl⟩
  have eN1v' : ab (2 ^ 32) X false = N1v := by rw [eN1]; rfl
  obtain ⟨N2v, eN2⟩ : ∃ z, z = Y := ⟨_, rfl⟩
  have eN2v' : ab (2 ^ 32) Y false = N2v := by rw [eN2]; rfl
  simp only [eN1v', eN2v'] at hA hB hB0 hq ⊢
  have hk : Y % 32 < 32 := Nat.mod_lt _ (by decide)
  have kk : (Y : Int) % 32 = ((Y % 32 : Nat) : Int) := by omega
  have kt : (Y : Int).tmod 32 = ((Y % 32 : Nat) : Int) := by rw [Int.tmod_eq_emod_of_nonneg (by omega)]; omega
  obtain ⟨k, ek⟩ : ∃ k, k = Y % 32 := ⟨_, rfl⟩
  rw [← ek] at hk kk kt
  have hYb : (Y : Int) < 18446744073709551616 := by omega
  have WY : Hid (∀ (W : World) (g c : Nat), 32 ≤ c → c ≤ 9223372036854775807 → Bo W g 32 (bt Y) → Calls Try.prog 20 #[.slice (some ⟨g, 0, none⟩) 32 c] W fun e w' => e = .returned (.int .u64 (Y : Int)) ∧ W = w') := Lib.hid (fun W g c a1 a2 b1 => Word_v g c 32 Y W (by decide) a1 a2 hY b1)
  have ZZ : Hid (∀ (W : World) (g c : Nat), 32 ≤ c → c ≤ 9223372036854775807 → Bo W g 32 (bt Y) → Calls Try.prog 24 #[.slice (some ⟨g, 0, none⟩) 32 c] W fun e w' => e = .returned (.bool false) ∧ W = w') := Lib.hid (fun W g c a1 a2 b1 => by
    have := Zero_v g c 32 Y W (by decide) a1 a2 hY b1
    rw [decide_eq_false h0] at this; exact this)
  have CD : Hid (∀ (W : World) (g1 c1 g2 c2 : Nat), 32 ≤ c1 → c1 ≤ 9223372036854775807 → 32 ≤ c2 → c2 ≤ 9223372036854775807 → Bo W g1 32 (bt N1v) → Bo W g2 32 (bt N2v) → Calls Try.prog 26 #[.slice (some ⟨g1, 0, none⟩) 32 c1, .slice (some ⟨g2, 0, none⟩) 32 c2] W (DPost W.heap.size 32 N1v N2v W)) := Lib.hid (fun W g1 c1 g2 c2 a1 a2 a3 a4 p1 p2 => Divide_v g1 c1 g2 c2 32 N1v N2v W (by decide) (by decide) a1 a3 a2 a4 hA hB hB0 p1 p2)
  obtain ⟨D, eD⟩ : ∃ R, R = N1v / N2v := ⟨_, rfl⟩
  have hD : D < 2 ^ 32 := by rw [eD]; exact Nat.lt_of_le_of_lt (Nat.div_le_self _ _) hA
  have ED := Lib.hid eD
  rw [← eD] at hq ⊢
  have WR : Hid (∀ (W : World) (g c : Nat), 32 ≤ c → c ≤ 9223372036854775807 → Bo W g 32 (bt D) → Calls Try.prog 20 #[.slice (some ⟨g, 0, none⟩) 32 c] W fun e w' => e = .returned (.int .u64 (D : Int)) ∧ W = w') := Lib.hid (fun W g c a1 a2 b1 => Word_v g c 32 D W (by decide) a1 a2 hD b1)
  have ETOP : Hid (bt D 31 = false) := Lib.hid (by rw [top_bit (n := 31) hD]; simp; omega)
  have ENA := Lib.hid ena
  have ENB := Lib.hid enb
  subst eN1
  subst eN2
  clear hX hY hA hB hB0 hD ek eD ha hb h0 ena enb eN1v' eN2v' hq
  go_enter Try.func11, Try.ntmps11
  go_wp2_with (first
    | (go_at_call 19; with_reducible refine (L1.out _).mono ?_; rintro e w1 hL; unfold LPost at hL; obtain ⟨g1, c1, rfl, n1, m1, b1, k1, h1⟩ := hL; have P1 := Lib.hid b1; have B1 := Lib.hid h1; clear b1 k1 h1)
    | (go_at_call 19; with_reducible refine (L2.out _).mono ?_; rintro e w2 hL; unfold LPost at hL; obtain ⟨g2, c2, rfl, n2, m2, b2, k2, h2⟩ := hL; have P2 := Lib.hid b2; have P1' := Lib.hid (P1.out.below h2 P1.out.lt); have B2 := Lib.hid (B1.out.trans (h2.mono B1.out.size)); have x1 : w2.cell? ⟨g1, 31, none⟩ = some (.bool false) := (P1'.out.at_ (by decide)).trans (by rw [ENA.out]); have x2 : w2.cell? ⟨g2, 31, none⟩ = some (.bool false) := (P2.out.at_ (by decide)).trans (by rw [ENB.out]); clear b2 k2 h2)
    | (go_at_call 20; with_reducible refine (WY.out _ _ _ n2 m2 P2.out).mono ?_; rintro e w3 ⟨rfl, rfl⟩)
    | (go_at_call 24; with_reducible refine (ZZ.out _ _ _ n2 m2 P2.out).mono ?_; rintro e w3 ⟨rfl, rfl⟩))
  go_quiet (fail)
  have T1 := Lib.hid (fun k => P1'.out.drewN k)
  have T2 := Lib.hid (fun k => P2.out.drewN k)
  have TB := Lib.hid (fun k => drew_below B2.out k)
  clear x1 x2
  go_wp2_with (first
    | (go_at_call 26; with_reducible refine (CD.out _ _ _ _ _ n1 m1 n2 m2 (T1.out _) (T2.out _)).mono ?_; rintro e w6 hL; unfold DPost at hL; obtain ⟨gq, gr, cr, rfl, n6, m6, bq, br, kq, kr, h6⟩ := hL; have x3 : w6.cell? ⟨gq, 31, none⟩ = some (.bool false) := (bq.at_ (by decide)).trans (by rw [← ED.out, ETOP.out]); have Q := Lib.hid bq; have S := Lib.hid br; have B6 := Lib.hid ((TB.out _).trans (h6.mono (TB.out _).size)); clear bq br kq kr h6)
    | (go_at_call 20; with_reducible refine (WR.out _ _ _ (Nat.le_refl _) (by decide) (by rw [ED.out]; exact Q.out)).mono ?_; rintro e w8 ⟨rfl, rfl⟩))
  go_ret2
  exact ⟨rfl, B6.out⟩
set_option maxHeartbeats 4000000 in
set_option maxRecDepth 100000 in
theorem RB_5_32_ft (a b : Nat) (w : World) (ha : a < 18446744073709551616) (hb : b < 18446744073709551616) (h0 : Wd.cut 32 b ≠ 0) (ena : bt (Wd.cut 32 a) 31 = false) (enb : bt (Wd.cut 32 b) 31 = true) :
    Calls Try.prog 11 #[.int .i64 5, .int .i64 32, .int .u64 a, .int .u64 b] w fun e w' => e = .returned (.tuple #[.int .u64 ((Wd.bz 5 32 a b : Nat) : Int), .int .i64 ((Wd.tr 5 32 a b : Nat) : Int)]) ∧ Below w.heap.size w w' := by
  have hX : Wd.cut 32 a < 2 ^ 32 := Wd.cut_lt (n := 32) (.inl rfl) ha
  have hY : Wd.cut 32 b < 2 ^ 32 := Wd.cut_lt (n := 32) (.inl rfl) hb
  have L1 : Hid (∀ W : World, Calls Try.prog 19 #[.int .i64 32, .int .u64 a] W (LPost W.heap.size 32 (bt (Wd.cut 32 a)) W)) := Lib.hid (fun W => (List_any 32 a W (by decide) (by decide) ha).mono fun e w' h => h.is (vl_cut 32 a (.inl rfl) ha))
  have L2 : Hid (∀ W : World, Calls Try.prog 19 #[.int .i64 32, .int .u64 b] W (LPost W.heap.size 32 (bt (Wd.cut 32 b)) W)) := Lib.hid (fun W => (List_any 32 b W (by decide) (by decide) hb).mono fun e w' h => h.is (vl_cut 32 b (.inl rfl) hb))
  obtain ⟨r1, r2, hB0, hA, hB⟩ := rb_5 (n := 32) (.inl rfl) ha hb h0 ena enb
  have r1 : Wd.bz 5 32 a b = ab (2 ^ 32) (Wd.cut 32 a) false % ab (2 ^ 32) (Wd.cut 32 b) true := r1
  have hA : ab (2 ^ 32) (Wd.cut 32 a) false < 2 ^ 32 := hA
  have hB : ab (2 ^ 32) (Wd.cut 32 b) true < 2 ^ 32 := hB
  have hB0 : ab (2 ^ 32) (Wd.cut 32 b) true ≠ 0 := hB0
  rw [r1, r2]
  clear r1 r2
  generalize Wd.cut 32 a = X at hX L1 ena hA ⊢
  generalize Wd.cut 32 b = Y at hY L2 h0 enb hB hB0 ⊢
  obtain ⟨N1v, eN1⟩ : ∃ z, z = X := ⟨_, rfl⟩
  have eN1v' : ab (2 ^ 32) X false = N1v := by rw [eN1]; rfl
  obtain ⟨N2v, eN2⟩ : ∃ z, z = (2 ^ 32 - Y) % 2 ^ 32 := ⟨_, rfl⟩
  have eN2v' : ab (2 ^ 32) Y true = N2v := by rw [eN2]; rfl
  simp only [eN1v', eN2v'] at hA hB hB0 ⊢
  have N2 : Hid (∀ (W : World) (g c : Nat), 32 ≤ c → c ≤ 9223372036854775807 → Bo W g 32 (bt Y) → Calls Try.prog 25 #[.slice (some ⟨g, 0, none⟩) 32 c] W (LPost W.heap.size 32 (bt N2v) W)) := Lib.hid (fun W g c a1 a2 b1 => by rw [eN2]; exact Neg_v g c 32 Y W (by decide) (by decide) a1 a2 hY b1)
  have hk : Y % 32 < 32 := Nat.mod_lt _ (by decide)
  have kk : (Y : Int) % 32 = ((Y % 32 : Nat) : Int) := by omega
  have kt : (Y : Int).tmod 32 = ((Y % 32 : Nat) : Int) := by rw [Int.tmod_eq_emod_of_nonneg (by omega)]; omega
  obtain ⟨k, ek⟩ : ∃ k, k = Y % 32 := ⟨_, rfl⟩
  rw [← ek] at hk kk kt
  have hYb : (Y : Int) < 18446744073709551616 := by omega
  have WY : Hid (∀ (W : World) (g c : Nat), 32 ≤ c → c ≤ 9223372036854775807 → Bo W g 32 (bt Y) → Calls Try.prog 20 #[.slice (some ⟨g, 0, none⟩) 32 c] W fun e w' => e = .returned (.int .u64 (Y : Int)) ∧ W = w') := Lib.hid (fun W g c a1 a2 b1 => Word_v g c 32 Y W (by decide) a1 a2 hY b1)
  have ZZ : Hid (∀ (W : World) (g c : Nat), 32 ≤ c → c ≤ 9223372036854775807 → Bo W g 32 (bt Y) → Calls Try.prog 24 #[.slice (some ⟨g, 0, none⟩) 32 c] W fun e w' => e = .returned (.bool false) ∧ W = w') := Lib.hid (fun W g c a1 a2 b1 => by
    have := Zero_v g c 32 Y W (by decide) a1 a2 hY b1
    rw [decide_eq_false h0] at this; exact this)
  have CD : Hid (∀ (W : World) (g1 c1 g2 c2 : Nat), 32 ≤ c1 → c1 ≤ 9223372036854775807 → 32 ≤ c2 → c2 ≤ 9223372036854775807 → Bo W g1 32 (bt N1v) → Bo W g2 32 (bt N2v) → Calls Try.prog 26 #[.slice (some ⟨g1, 0, none⟩) 32 c1, .slice (some ⟨g2, 0, none⟩) 32 c2] W (DPost W.heap.size 32 N1v N2v W)) := Lib.hid (fun W g1 c1 g2 c2 a1 a2 a3 a4 p1 p2 => Divide_v g1 c1 g2 c2 32 N1v N2v W (by decide) (by decide) a1 a3 a2 a4 hA hB hB0 p1 p2)
  obtain ⟨D, eD⟩ : ∃ R, R = N1v % N2v := ⟨_, rfl⟩
  have hD : D < 2 ^ 32 := by rw [eD]; exact Nat.lt_of_le_of_lt (Nat.mod_le _ _) hA
  have ED := Lib.hid eD
  rw [← eD]
  have WR : Hid (∀ (W : World) (g c : Nat), 32 ≤ c → c ≤ 9223372036854775807 → Bo W g 32 (bt D) → Calls Try.prog 20 #[.slice (some ⟨g, 0, none⟩) 32 c] W fun e w' => e = .returned (.int .u64 (D : Int)) ∧ W = w') := Lib.hid (fun W g c a1 a2 b1 => Word_v g c 32 D W (by decide) a1 a2 hD b1)
  have ENA := Lib.hid ena
  have ENB := Lib.hid enb
  subst eN1
  clear hX hY hA hB hB0 hD ek eD ha hb h0 ena enb eN1v' eN2v' eN2
  go_enter Try.func11, Try.ntmps11
  go_wp2_with (first
    | (go_at_call 19; with_reducible refine (L1.out _).mono ?_; rintro e w1 hL; unfold LPost at hL; obtain ⟨g1, c1, rfl, n1, m1, b1, k1, h1⟩ := hL; have P1 := Lib.hid b1; have B1 := Lib.hid h1; clear b1 k1 h1)
    | (go_at_call 19; with_reducible refine (L2.out _).mono ?_; rintro e w2 hL; unfold LPost at hL; obtain ⟨g2, c2, rfl, n2, m2, b2, k2, h2⟩ := hL; have P2 := Lib.hid b2; have P1' := Lib.hid (P1.out.below h2 P1.out.lt); have B2 := Lib.hid (B1.out.trans (h2.mono B1.out.size)); have x1 : w2.cell? ⟨g1, 31, none⟩ = some (.bool false) := (P1'.out.at_ (by decide)).trans (by rw [ENA.out]); have x2 : w2.cell? ⟨g2, 31, none⟩ = some (.bool true) := (P2.out.at_ (by decide)).trans (by rw [ENB.out]); clear b2 k2 h2)
    | (go_at_call 20; with_reducible refine (WY.out _ _ _ n2 m2 P2.out).mono ?_; rintro e w3 ⟨rfl, rfl⟩)
    | (go_at_call 24; with_reducible refine (ZZ.out _ _ _ n2 m2 P2.out).mono ?_; rintro e w3 ⟨rfl, rfl⟩))
  go_quiet (fail)
  have T1 := Lib.hid (fun k => P1'.out.drewN k)
  have T2 := Lib.hid (fun k => P2.out.drewN k)
  have TB := Lib.hid (fun k => drew_below B2.out k)
  clear x1 x2
  go_wp2_with (first
    | (go_at_call 25; with_reducible refine (N2.out _ _ _ n2 m2 (T2.out _)).mono ?_; rintro e w5 hL; unfold LPost at hL; obtain ⟨g5, c5, rfl, n5, m5, b5, k5, h5⟩ := hL; have U2 := Lib.hid b5; have V1 := Lib.hid ((T1.out _).below h5 (T1.out _).lt); have B5 := Lib.hid ((TB.out _).trans (h5.mono (TB.out _).size)); clear b5 k5 h5)
    | (go_at_call 26; with_reducible refine (CD.out _ _ _ _ _ n1 m1 n5 m5 V1.out U2.out).mono ?_; rintro e w6 hL; unfold DPost at hL; obtain ⟨gq, gr, cr, rfl, n6, m6, bq, br, kq, kr, h6⟩ := hL; have Q := Lib.hid bq; have S := Lib.hid br; have B6 := Lib.hid (B5.out.trans (h6.mono B5.out.size)); clear bq br kq kr h6)
    | (go_at_call 20; with_reducible refine (WR.out _ _ _ n6 m6 (by rw [ED.out]; exact S.out)).mono ?_; rintro e w8 ⟨rfl, rfl⟩))
  go_ret2
  exact ⟨rfl, B6.out⟩
set_option maxHeartbeats 4000000 in
set_option maxRecDepth 100000 in
theorem RB_3_32_ft (a b : Nat) (w : World) (ha : a < 18446744073709551616) (hb : b < 18446744073709551616) (h0 : Wd.cut 32 b ≠ 0) (ena : bt (Wd.cut 32 a) 31 = false) (enb : bt (Wd.cut 32 b) 31 = true) :
    Calls Try.prog 11 #[.int .i64 3, .int .i64 32, .int .u64 a, .int .u64 b] w fun e w' => e = .returned (.tuple #[.int .u64 ((Wd.bz 3 32 a b : Nat) : Int), .int .i64 ((Wd.tr 3 32 a b : Nat) : Int)]) ∧ Below w.heap.size w w' := by
  have hX : Wd.cut 32 a < 2 ^ 32 := Wd.cut_lt (n := 32) (.inl rfl) ha
  have hY : Wd.cut 32 b < 2 ^ 32 := Wd.cut_lt (n := 32) (.inl rfl) hb
  have L1 : Hid (∀ W : World, Calls Try.prog 19 #[.int .i64 32, .int .u64 a] W (LPost W.heap.size 32 (bt (Wd.cut 32 a)) W)) := Lib.hid (fun W => (List_any 32 a W (by decide) (by decide) ha).mono fun e w' h => h.is (vl_cut 32 a (.inl rfl) ha))
  have L2 : Hid (∀ W : World, Calls Try.prog 19 #[.int .i64 32, .int .u64 b] W (LPost W.heap.size 32 (bt (Wd.cut 32 b)) W)) := Lib.hid (fun W => (List_any 32 b W (by decide) (by decide) hb).mono fun e w' h => h.is (vl_cut 32 b (.inl rfl) hb))
  obtain ⟨q1, q2, q3, hB0, hA, hB⟩ := rb_3 (n := 32) (.inl rfl) ha hb h0 ena enb
  obtain ⟨r1, r2⟩ := q3 (by decide)
  clear q1 q2 q3
  have r1 : Wd.bz 3 32 a b = (2 ^ 32 - ab (2 ^ 32) (Wd.cut 32 a) false / ab (2 ^ 32) (Wd.cut 32 b) true) % 2 ^ 32 := r1
  have hA : ab (2 ^ 32) (Wd.cut 32 a) false < 2 ^ 32 := hA
  have hB : ab (2 ^ 32) (Wd.cut 32 b) true < 2 ^ 32 := hB
  have hB0 : ab (2 ^ 32) (Wd.cut 32 b) true ≠ 0 := hB0
  rw [r1, r2]
  clear r1 r2
  generalize Wd.cut 32 a = X at hX L1 ena hA ⊢
  generalize Wd.cut 32 b = Y at hY L2 h0 enb hB hB0 ⊢
  obtain ⟨N1v, eN1⟩ : ∃ z, z = X := ⟨_, rfl⟩
  have eN1v' : ab (2 ^ 32) X false = N1v := by rw [eN1]; rfl
  obtain ⟨N2v, eN2⟩ : ∃ z, z = (2 ^ 32 - Y) % 2 ^ 32 := ⟨_, rfl⟩
  have eN2v' : ab (2 ^ 32) Y true = N2v := by rw [eN2]; rfl
  simp only [eN1v', eN2v'] at hA hB hB0 ⊢
  have N2 : Hid (∀ (W : World) (g c : Nat), 32 ≤ c → c ≤ 9223372036854775807 → Bo W g 32 (bt Y) → Calls Try.prog 25 #[.slice (some ⟨g, 0, none⟩) 32 c] W (LPost W.heap.size 32 (bt N2v) W)) := Lib.hid (fun W g c a1 a2 b1 => by rw [eN2]; exact Neg_v g c 32 Y W (by decide) (by decide) a1 a2 hY b1)
  have hk : Y % 32 < 32 := Nat.mod_lt _ (by decide)
  have kk : (Y : Int) % 32 = ((Y % 32 : Nat) : Int) := by omega
  have kt : (Y : Int).tmod 32 = ((Y % 32 : Nat) : Int) := by rw [Int.tmod_eq_emod_of_nonneg (by omega)]; omega
  obtain ⟨k, ek⟩ : ∃ k, k = Y % 32 := ⟨_, rfl⟩
  rw [← ek] at hk kk kt
  have hYb : (Y : Int) < 18446744073709551616 := by omega
  have WY : Hid (∀ (W : World) (g c : Nat), 32 ≤ c → c ≤ 9223372036854775807 → Bo W g 32 (bt Y) → Calls Try.prog 20 #[.slice (some ⟨g, 0, none⟩) 32 c] W fun e w' => e = .returned (.int .u64 (Y : Int)) ∧ W = w') := Lib.hid (fun W g c a1 a2 b1 => Word_v g c 32 Y W (by decide) a1 a2 hY b1)
  have ZZ : Hid (∀ (W : World) (g c : Nat), 32 ≤ c → c ≤ 9223372036854775807 → Bo W g 32 (bt Y) → Calls Try.prog 24 #[.slice (some ⟨g, 0, none⟩) 32 c] W fun e w' => e = .returned (.bool false) ∧ W = w') := Lib.hid (fun W g c a1 a2 b1 => by
    have := Zero_v g c 32 Y W (by decide) a1 a2 hY b1
    rw [decide_eq_false h0] at this; exact this)
  have CD : Hid (∀ (W : World) (g1 c1 g2 c2 : Nat), 32 ≤ c1 → c1 ≤ 9223372036854775807 → 32 ≤ c2 → c2 ≤ 9223372036854775807 → Bo W g1 32 (bt N1v) → Bo W g2 32 (bt N2v) → Calls Try.prog 26 #[.slice (some ⟨g1, 0, none⟩) 32 c1, .slice (some ⟨g2, 0, none⟩) 32 c2] W (DPost W.heap.size 32 N1v N2v W)) := Lib.hid (fun W g1 c1 g2 c2 a1 a2 a3 a4 p1 p2 => Divide_v g1 c1 g2 c2 32 N1v N2v W (by decide) (by decide) a1 a3 a2 a4 hA hB hB0 p1 p2)
  obtain ⟨D, eD⟩ : ∃ R, R = N1v / N2v := ⟨_, rfl⟩
  have hD : D < 2 ^ 32 := by rw [eD]; exact Nat.lt_of_le_of_lt (Nat.div_le_self _ _) hA
  have ED := Lib.hid eD
  rw [← eD]
  obtain ⟨N3v, eN3⟩ : ∃ R, R = (2 ^ 32 - D) % 2 ^ 32 := ⟨_, rfl⟩
  have hR : N3v < 2 ^ 32 := by rw [eN3]; exact Nat.mod_lt _ (Nat.two_pow_pos _)
  have N3 : Hid (∀ (W : World) (g c : Nat), 32 ≤ c → c ≤ 9223372036854775807 → Bo W g 32 (bt D) → Calls Try.prog 25 #[.slice (some ⟨g, 0, none⟩) 32 c] W (LPost W.heap.size 32 (bt N3v) W)) := Lib.hid (fun W g c a1 a2 b1 => by rw [eN3]; exact Neg_v g c 32 D W (by decide) (by decide) a1 a2 hD b1)
  have WR : Hid (∀ (W : World) (g c : Nat), 32 ≤ c → c ≤ 9223372036854775807 → Bo W g 32 (bt N3v) → Calls Try.prog 20 #[.slice (some ⟨g, 0, none⟩) 32 c] W fun e w' => e = .returned (.int .u64 (N3v : Int)) ∧ W = w') := Lib.hid (fun W g c a1 a2 b1 => Word_v g c 32 N3v W (by decide) a1 a2 hR b1)
  rw [← eN3]
  have ENA := Lib.hid ena
  have ENB := Lib.hid enb
  subst eN1
  clear hX hY hA hB hB0 hD ek eD ha hb h0 ena enb eN1v' eN2v' eN2 hR eN3
  go_enter Try.func11, Try.ntmps11
  go_wp2_with (first
    | (go_at_call 19; with_reducible refine (L1.out _).mono ?_; rintro e w1 hL; unfold LPost at hL; obtain ⟨g1, c1, rfl, n1, m1, b1, k1, h1⟩ := hL; have P1 := Lib.hid b1; have B1 := Lib.hid h1; clear b1 k1 h1)
    | (go_at_call 19; with_reducible refine (L2.out _).mono ?_; rintro e w2 hL; unfold LPost at hL; obtain ⟨g2, c2, rfl, n2, m2, b2, k2, h2⟩ := hL; have P2 := Lib.hid b2; have P1' := Lib.hid (P1.out.below h2 P1.out.lt); have B2 := Lib.hid (B1.out.trans (h2.mono B1.out.size)); have x1 : w2.cell? ⟨g1, 31, none⟩ = some (.bool false) := (P1'.out.at_ (by decide)).trans (by rw [ENA.out]); have x2 : w2.cell? ⟨g2, 31, none⟩ = some (.bool true) := (P2.out.at_ (by decide)).trans (by rw [ENB.out]); clear b2 k2 h2)
    | (go_at_call 20; with_reducible refine (WY.out _ _ _ n2 m2 P2.out).mono ?_; rintro e w3 ⟨rfl, rfl⟩)
    | (go_at_call 24; with_reducible refine (ZZ.out _ _ _ n2 m2 P2.out).mono ?_; rintro e w3 ⟨rfl, rfl⟩))
  go_quiet (fail)
  have T1 := Lib.hid (fun k => P1'.out.drewN k)
  have T2 := Lib.hid (fun k => P2.out.drewN k)
  have TB := Lib.hid (fun k => drew_below B2.out k)
  clear x1 x2
  go_wp2_with (first
    | (go_at_call 25; with_reducible refine (N2.out _ _ _ n2 m2 (T2.out _)).mono ?_; rintro e w5 hL; unfold LPost at hL; obtain ⟨g5, c5, rfl, n5, m5, b5, k5, h5⟩ := hL; have U2 := Lib.hid b5; have V1 := Lib.hid ((T1.out _).below h5 (T1.out _).lt); have B5 := Lib.hid ((TB.out _).trans (h5.mono (TB.out _).size)); clear b5 k5 h5)
    | (go_at_call 26; with_reducible refine (CD.out _ _ _ _ _ n1 m1 n5 m5 V1.out U2.out).mono ?_; rintro e w6 hL; unfold DPost at hL; obtain ⟨gq, gr, cr, rfl, n6, m6, bq, br, kq, kr, h6⟩ := hL; have Q := Lib.hid bq; have S := Lib.hid br; have B6 := Lib.hid (B5.out.trans (h6.mono B5.out.size)); clear bq br kq kr h6)
    | (go_at_call 25; with_reducible refine (N3.out _ _ _ (Nat.le_refl _) (by decide) (by rw [ED.out]; exact Q.out)).mono ?_; rintro e w7 hL; unfold LPost at hL; obtain ⟨g7, c7, rfl, n7, m7, b7, k7, h7⟩ := hL; have U7 := Lib.hid b7; have B7 := Lib.hid (B6.out.trans (h7.mono B6.out.size)); clear b7 k7 h7)
    | (go_at_call 20; with_reducible refine (WR.out _ _ _ n7 m7 U7.out).mono ?_; rintro e w8 ⟨rfl, rfl⟩))
  go_ret2
  exact ⟨rfl, B7.out⟩
set_option maxHeartbeats 4000000 in
set_option maxRecDepth 100000 in
theorem RB_5_32_tf (a b : Nat) (w : World) (ha : a < 18446744073709551616) (hb : b < 18446744073709551616) (h0 : Wd.cut 32 b ≠ 0) (ena : bt (Wd.cut 32 a) 31 = true) (enb : bt (Wd.cut 32 b) 31 = false) :
    Calls Try.prog 11 #[.int .i64 5, .int .i64 32, .int .u64 a, .int .u64 b] w fun e w' => e = .returned (.tuple #[.int .u64 ((Wd.bz 5 32 a b : Nat) : Int), .int .i64 ((Wd.tr 5 32 a b : Nat) : Int)]) ∧ Below w.heap.size w w' := by
  have hX : Wd.cut 32 a < 2 ^ 32 := Wd.cut_lt (n := 32) (.inl rfl) ha
  have hY : Wd.cut 32 b < 2 ^ 32 := Wd.cut_lt (n := 32) (.inl rfl) hb
  have L1 : Hid (∀ W : World, Calls Try.prog 19 #[.int .i64 32, .int .u64 a] W (LPost W.heap.size 32 (bt (Wd.cut 32 a)) W)) := Lib.hid (fun W => (List_any 32 a W (by decide) (by decide) ha).mono fun e w' h => h.is (vl_cut 32 a (.inl rfl) ha))
  have L2 : Hid (∀ W : World, Calls Try.prog 19 #[.int .i64 32, .int .u64 b] W (LPost W.heap.size 32 (bt (Wd.cut 32 b)) W)) := Lib.hid (fun W => (List_any 32 b W (by decide) (by decide) hb).mono fun e w' h => h.is (vl_cut 32 b (.inl rfl) hb))
  obtain ⟨r1, r2, hB0, hA, hB⟩ := rb_5 (n := 32) (.inl rfl) ha hb h0 ena enb
  have r1 : Wd.bz 5 32 a b = (2 ^ 32 - ab (2 ^ 32) (Wd.cut 32 a) true % ab (2 ^ 32) (Wd.cut 32 b) false) % 2 ^ 32 := r1
  have hA : ab (2 ^ 32) (Wd.cut 32 a) true < 2 ^ 32 := hA
  have hB : ab (2 ^ 32) (Wd.cut 32 b) false < 2 ^ 32 := hB
  have hB0 : ab (2 ^ 32) (Wd.cut 32 b) false ≠ 0 := hB0
  rw [r1, r2]
  clear r1 r2
  generalize Wd.cut 32 a = X at hX L1 ena hA ⊢
  generalize Wd.cut 32 b = Y at hY L2 h0 enb hB hB0 ⊢
  obtain ⟨N1v, eN1⟩ : ∃ z, z = (2 ^ 32 - X) % 2 ^ 32 := ⟨_, rfl⟩
  have eN1v' : ab (2 ^ 32) X true = N1v := by rw [eN1]; rfl
  obtain ⟨N2v, eN2⟩ : ∃ z, z = Y := ⟨_, rfl⟩
  have eN2v' : ab (2 ^ 32) Y false = N2v := by rw [eN2]; rfl
  simp only [eN1v', eN2v'] at hA hB hB0 ⊢
  have N1 : Hid (∀ (W : World) (g c : Nat), 32 ≤ c → c ≤ 9223372036854775807 → Bo W g 32 (bt X) → Calls Try.prog 25 #[.slice (some ⟨g, 0, none⟩) 32 c] W (LPost W.heap.size 32 (bt N1v) W)) := Lib.hid (fun W g c a1 a2 b1 => by rw [eN1]; exact Neg_v g c 32 X W (by decide) (by decide) a1 a2 hX b1)
  have hk : Y % 32 < 32 := Nat.mod_lt _ (by decide)
  have kk : (Y : Int) % 32 = ((Y % 32 : Nat) : Int) := by omega
  have kt : (Y : Int).tmod 32 = ((Y % 32 : Nat) : Int) := by rw [Int.tmod_eq_emod_of_nonneg (by omega)]; omega
  obtain ⟨k, ek⟩ : ∃ k, k = Y % 32 := ⟨_, rfl⟩
  rw [← ek] at hk kk kt
  have hYb : (Y : Int) < 18446744073709551616 := by omega
  have WY : Hid (∀ (W : World) (g c : Nat), 32 ≤ c → c ≤ 9223372036854775807 → Bo W g 32 (bt Y) → Calls Try.prog 20 #[.slice (some ⟨g, 0, none⟩) 32 c] W fun e w' => e = .returned (.int .u64 (Y : Int)) ∧ W = w') := Lib.hid (fun W g c a1 a2 b1 => Word_v g c 32 Y W (by decide) a1 a2 hY b1)
  have ZZ : Hid (∀ (W : World) (g c : Nat), 32 ≤ c → c ≤ 9223372036854775807 → Bo W g 32 (bt Y) → Calls Try.prog 24 #[.slice (some ⟨g, 0, none⟩) 32 c] W fun e w' => e = .returned (.bool false) ∧ W = w') := Lib.hid (fun W g c a1 a2 b1 => by
    have := Zero_v g c 32 Y W (by decide) a1 a2 hY b1
    rw [decide_eq_false h0] at this; exact this)
  have CD : Hid (∀ (W : World) (g1 c1 g2 c2 : Nat), 32 ≤ c1 → c1 ≤ 9223372036854775807 → 32 ≤ c2 → c2 ≤ 9223372036854775807 → Bo W g1 32 (bt N1v) → Bo W g2 32 (bt N2v) → Calls Try.prog 26 #[.slice (some ⟨g1, 0, none⟩) 32 c1, .slice (some ⟨g2, 0, none⟩) 32 c2] W (DPost W.heap.size 32 N1v N2v W)) := Lib.hid (fun W g1 c1 g2 c2 a1 a2 a3 a4 p1 p2 => Divide_v g1 c1 g2 c2 32 N1v N2v W (by decide) (by decide) a1 a3 a2 a4 hA hB hB0 p1 p2)
  obtain ⟨D, eD⟩ : ∃ R, R = N1v % N2v := ⟨_, rfl⟩
  have hD : D < 2 ^ 32 := by rw [eD]; exact Nat.lt_of_le_of_lt (Nat.mod_le _ _) hA
  have ED := Lib.hid eD
  rw [← eD]
  obtain ⟨N3v, eN3⟩ : ∃ R, R = (2 ^ 32 - D) % 2 ^ 32 := ⟨_, rfl⟩
  have hR : N3v < 2 ^ 32 := by rw [eN3]; exact Nat.mod_lt _ (Nat.two_pow_pos _)
  have N3 : Hid (∀ (W : World) (g c : Nat), 32 ≤ c → c ≤ 9223372036854775807 → Bo W g 32 (bt D) → Calls Try.prog 25 #[.slice (some ⟨g, 0, none⟩) 32 c] W (LPost W.heap.size 32 (bt N3v) W)) := Lib.hid (fun W g c a1 a2 b1 => by rw [eN3]; exact Neg_v g c 32 D W (by decide) (by decide) a1 a2 hD b1)
  have WR : Hid (∀ (W : World) (g c : Nat), 32 ≤ c → c ≤ 9223372036854775807 → Bo W g 32 (bt N3v) → Calls Try.prog 20 #[.slice (some ⟨g, 0, none⟩) 32 c] W fun e w' => e = .returned (.int .u64 (N3v : Int)) ∧ W = w') := Lib.hid (fun W g c a1 a2 b1 => Word_v g c 32 N3v W (by decide) a1 a2 hR b1)
  rw [← eN3]
  have ENA := Lib.hid ena
  have ENB := Lib.hid enb
  subst eN2
  clear hX hY hA hB hB0 hD ek eD ha hb h0 ena enb eN1v' eN2v' eN1 hR eN3
  go_enter Try.func11, Try.ntmps11
  go_wp2_with (first
    | (go_at_call 19; with_reducible refine (L1.out _).mono ?_; rintro e w1 hL; unfold LPost at hL; obtain ⟨g1, c1, rfl, n1, m1, b1, k1, h1⟩ := hL; have P1 := Lib.hid b1; have B1 := Lib.hid h1; clear b1 k1 h1)
    | (go_at_call 19; with_reducible refine (L2.out _).mono ?_; rintro e w2 hL; unfold LPost at hL; obtain ⟨g2, c2, rfl, n2, m2, b2, k2, h2⟩ := hL; have P2 := Lib.hid b2; have P1' := Lib.hid (P1.out.below h2 P1.out.lt); have B2 := Lib.hid (B1.out.trans (h2.mono B1.out.size)); have x1 : w2.cell? ⟨g1, 31, none⟩ = some (.bool true) := (P1'.out.at_ (by decide)).trans (by rw [ENA.out]); have x2 : w2.cell? ⟨g2, 31, none⟩ = some (.bool false) := (P2.out.at_ (by decide)).trans (by rw [ENB.out]); clear b2 k2 h2)
    | (go_at_call 20; with_reducible refine (WY.out _ _ _ n2 m2 P2.out).mono ?_; rintro e w3 ⟨rfl, rfl⟩)
    | (go_at_call 24; with_reducible refine (ZZ.out _ _ _ n2 m2 P2.out).mono ?_; rintro e w3 ⟨rfl, rfl⟩))
  go_quiet (fail)
  have T1 := Lib.hid (fun k => P1'.out.drewN k)
  have T2 := Lib.hid (fun k => P2.out.drewN k)
  have TB := Lib.hid (fun k => drew_below B2.out k)
  clear x1 x2
  go_wp2_with (first
    | (go_at_call 25; with_reducible refine (N1.out _ _ _ n1 m1 (T1.out _)).mono ?_; rintro e w4 hL; unfold LPost at hL; obtain ⟨g4, c4, rfl, n4, m4, b4, k4, h4⟩ := hL; have U1 := Lib.hid b4; have T2' := Lib.hid ((T2.out _).below h4 (T2.out _).lt); have B4 := Lib.hid ((TB.out _).trans (h4.mono (TB.out _).size)); clear b4 k4 h4)
    | (go_at_call 26; with_reducible refine (CD.out _ _ _ _ _ n4 m4 n2 m2 U1.out T2'.out).mono ?_; rintro e w6 hL; unfold DPost at hL; obtain ⟨gq, gr, cr, rfl, n6, m6, bq, br, kq, kr, h6⟩ := hL; have Q := Lib.hid bq; have S := Lib.hid br; have B6 := Lib.hid (B4.out.trans (h6.mono B4.out.size)); clear bq br kq kr h6)
    | (go_at_call 25; with_reducible refine (N3.out _ _ _ n6 m6 (by rw [ED.out]; exact S.out)).mono ?_; rintro e w7 hL; unfold LPost at hL; obtain ⟨g7, c7, rfl, n7, m7, b7, k7, h7⟩ := hL; have U7 := Lib.hid b7; have B7 := Lib.hid (B6.out.trans (h7.mono B6.out.size)); clear b7 k7 h7)
    | (go_at_call 20; with_reducible refine (WR.out _ _ _ n7 m7 U7.out).mono ?_; rintro e w8 ⟨rfl, rfl⟩))
  go_ret2
  exact ⟨rfl, B7.out⟩
set_option maxHeartbeats 4000000 in
set_option maxRecDepth 100000 in
theorem RB_3_32_tf (a b : Nat) (w : World) (ha : a < 18446744073709551616) (hb : b < 18446744073709551616) (h0 : Wd.cut 32 b ≠ 0) (ena : bt (Wd.cut 32 a) 31 = true) (enb : bt (Wd.cut 32 b) 31 = false) :
    Calls Try.prog 11 #[.int .i64 3, .int .i64 32, .int .u64 a, .int .u64 b] w fun e w' => e = .returned (.tuple #[.int .u64 ((Wd.bz 3 32 a b : Nat) : Int), .int .i64 ((Wd.tr 3 32 a b : Nat) : Int)]) ∧ Below w.heap.size w w' := by
  have hX : Wd.cut 32 a < 2 ^ 32 := Wd.cut_lt (n := 32) (.inl rfl) ha
  have hY : Wd.cut 32 b < 2 ^ 32 := Wd.cut_lt (n := 32) (.inl rfl) hb
  have L1 : Hid (∀ W : World, Calls Try.prog 19 #[.int .i64 32, .int .u64 a] W (LPost W.heap.size 32 (bt (Wd.cut 32 a)) W)) := Lib.hid (fun W => (List_any 32 a W (by decide) (by decide) ha).mono fun e w' h => h.is (vl_cut 32 a (.inl rfl) ha))
  have L2 : Hid (∀ W : World, Calls Try.prog 19 #[.int .i64 32, .int .u64 b] W (LPost W.heap.size 32 (bt (Wd.cut 32 b)) W)) := Lib.hid (fun W => (List_any 32 b W (by decide) (by decide) hb).mono fun e w' h => h.is (vl_cut 32 b (.inl rfl) hb))
  obtain ⟨q1, q2, q3, hB0, hA, hB⟩ := rb_3 (n := 32) (.inl rfl) ha hb h0 ena enb
  obtain ⟨r1, r2⟩ := q3 (by decide)
  clear q1 q2 q3
  have r1 : Wd.bz 3 32 a b = (2 ^ 32 - ab (2 ^ 32) (Wd.cut 32 a) true / ab (2 ^ 32) (Wd.cut 32 b) false) % 2 ^ 32 := r1
  have hA : ab (2 ^ 32) (Wd.cut 32 a) true < 2 ^ 32 := hA
  have hB : ab (2 ^ 32) (Wd.cut 32 b) false < 2 ^ 32 := hB
  have hB0 : ab (2 ^ 32) (Wd.cut 32 b) false ≠ 0 := hB0
  rw [r1, r2]
  clear r1 r2
  generalize Wd.cut 32 a = X at hX L1 ena hA ⊢
  generalize Wd.cut 32 b = Y at hY L2 h0 enb hB hB0 ⊢
  obtain ⟨N1v, eN1⟩ : ∃ z, z = (2 ^ 32 - X) % 2 ^ 32 := ⟨_, rfl⟩
  have eN1v' : ab (2 ^ 32) X true = N1v := by rw [eN1]; rfl
  obtain ⟨N2v, eN2⟩ : ∃ z, z = Y := ⟨_, rfl⟩
  have eN2v' : ab (2 ^ 32) Y false = N2v := by rw [eN2]; rfl
  simp only [eN1v', eN2v'] at hA hB hB0 ⊢
  have N1 : Hid (∀ (W : World) (g c : Nat), 32 ≤ c → c ≤ 9223372036854775807 → Bo W g 32 (bt X) → Calls Try.prog 25 #[.slice (some ⟨g, 0, none⟩) 32 c] W (LPost W.heap.size 32 (bt N1v) W)) := Lib.hid (fun W g c a1 a2 b1 => by rw [eN1]; exact Neg_v g c 32 X W (by decide) (by decide) a1 a2 hX b1)
  have hk : Y % 32 < 32 := Nat.mod_lt _ (by decide)
  have kk : (Y : Int) % 32 = ((Y % 32 : Nat) : Int) := by omega
  have kt : (Y : Int).tmod 32 = ((Y % 32 : Nat) : Int) := by rw [Int.tmod_eq_emod_of_nonneg (by omega)]; omega
  obtain ⟨k, ek⟩ : ∃ k, k = Y % 32 := ⟨_, rfl⟩
  rw [← ek] at hk kk kt
  have hYb : (Y : Int) < 18446744073709551616 := by omega
  have WY : Hid (∀ (W : World) (g c : Nat), 32 ≤ c → c ≤ 9223372036854775807 → Bo W g 32 (bt Y) → Calls Try.prog 20 #[.slice (some ⟨g, 0, none⟩) 32 c] W fun e w' => e = .returned (.int .u64 (Y : Int)) ∧ W = w') := Lib.hid (fun W g c a1 a2 b1 => Word_v g c 32 Y W (by decide) a1 a2 hY b1)
  have ZZ : Hid (∀ (W : World) (g c : Nat), 32 ≤ c → c ≤ 9223372036854775807 → Bo W g 32 (bt Y) → Calls Try.prog 24 #[.slice (some ⟨g, 0, none⟩) 32 c] W fun e w' => e = .returned (.bool false) ∧ W = w') := Lib.hid (fun W g c a1 a2 b1 => by
    have := Zero_v g c 32 Y W (by decide) a1 a2 hY b1
    rw [decide_eq_false h0] at this; exact this)
  have CD : Hid (∀ (W : World) (g1 c1 g2 c2 : Nat), 32 ≤ c1 → c1 ≤ 9223372036854775807 → 32 ≤ c2 → c2 ≤ 9223372036854775807 → Bo W g1 32 (bt N1v) → Bo W g2 32 (bt N2v) → Calls Try.prog 26 #[.slice (some ⟨g1, 0, none⟩) 32 c1, .slice (some ⟨g2, 0, none⟩) 32 c2] W (DPost W.heap.size 32 N1v N2v W)) := Lib.hid (fun W g1 c1 g2 c2 a1 a2 a3 a4 p1 p2 => Divide_v g1 c1 g2 c2 32 N1v N2v W (by decide) (by decide) a1 a3 a2 a4 hA hB hB0 p1 p2)
  obtain ⟨D, eD⟩ : ∃ R, R = N1v / N2v := ⟨_, rfl⟩
  have hD : D < 2 ^ 32 := by rw [eD]; exact Nat.lt_of_le_of_lt (Nat.div_le_self _ _) hA
  have ED := Lib.hid eD
  rw [← eD]
  obtain ⟨N3v, eN3⟩ : ∃ R, R = (2 ^ 32 - D) % 2 ^ 32 := ⟨_, rfl⟩
  have hR : N3v < 2 ^ 32 := by rw [eN3]; exact Nat.mod_lt _ (Nat.two_pow_pos _)
  have N3 : Hid (∀ (W : World) (g c : Nat), 32 ≤ c → c ≤ 9223372036854775807 → Bo W g 32 (bt D) → Calls Try.prog 25 #[.slice (some ⟨g, 0, none⟩) 32 c] W (LPost W.heap.size 32 (bt N3v) W)) := Lib.hid (fun W g c a1 a2 b1 => by rw [eN3]; exact Neg_v g c 32 D W (by decide) (by decide) a1 a2 hD b1)
  have WR : Hid (∀ (W : World) (g c : Nat), 32 ≤ c → c ≤ 9223372036854775807 → Bo W g 32 (bt N3v) → Calls Try.prog 20 #[.slice (some ⟨g, 0, none⟩) 32 c] W fun e w' => e = .returned (.int .u64 (N3v : Int)) ∧ W = w') := Lib.hid (fun W g c a1 a2 b1 => Word_v g c 32 N3v W (by decide) a1 a2 hR b1)
  rw [← eN3]
  have ENA := Lib.hid ena
  have ENB := Lib.hid enb
  subst eN2
  clear hX hY hA hB hB0 hD ek eD ha hb h0 ena enb eN1v' eN2v' eN1 hR eN3
  go_enter Try.func11, Try.ntmps11
  go_wp2_with (first
    | (go_at_call 19; with_reducible refine (L1.out _).mono ?_; rintro e w1 hL; unfold LPost at hL; obtain ⟨g1, c1, rfl, n1, m1, b1, k1, h1⟩ := hL; have P1 := Lib.hid b1; have B1 := Lib.hid h1; clear b1 k1 h1)
    | (go_at_call 19; with_reducible refine (L2.out _).mono ?_; rintro e w2 hL; unfold LPost at hL; obtain ⟨g2, c2, rfl, n2, m2, b2, k2, h2⟩ := hL; have P2 := Lib.hid b2; have P1' := Lib.hid (P1.out.below h2 P1.out.lt); have B2 := Lib.hid (B1.out.trans (h2.mono B1.out.size)); have x1 : w2.cell? ⟨g1, 31, none⟩ = some (.bool true) := (P1'.out.at_ (by decide)).trans (by rw [ENA.out]); have x2 : w2.cell? ⟨g2, 31, none⟩ = some (.bool false) := (P2.out.at_ (by decide)).trans (by rw [ENB.out]); clear b2 k2 h2)
    | (go_at_call 20; with_reducible refine (WY.out _ _ _ n2 m2 P2.out).mono ?_; rintro e w3 ⟨rfl, rfl⟩)
    | (go_at_call 24; with_reducible refine (ZZ.out _ _ _ n2 m2 P2.out).mono ?_; rintro e w3 ⟨rfl, rfl⟩))
  go_quiet (fail)
  have T1 := Lib.hid (fun k => P1'.out.drewN k)
  have T2 := Lib.hid (fun k => P2.out.drewN k)
  have TB := Lib.hid (fun k => drew_below B2.out k)
  clear x1 x2
  go_wp2_with (first
    | (go_at_call 25; with_reducible refine (N1.out _ _ _ n1 m1 (T1.out _)).mono ?_; rintro e w4 hL; unfold LPost at hL; obtain ⟨g4, c4, rfl, n4, m4, b4, k4, h4⟩ := hL; have U1 := Lib.hid b4; have T2' := Lib.hid ((T2.out _).below h4 (T2.out _).lt); have B4 := Lib.hid ((TB.out _).trans (h4.mono (TB.out _).size)); clear b4 k4 h4)
    | (go_at_call 26; with_reducible refine (CD.out _ _ _ _ _ n4 m4 n2 m2 U1.out T2'.out).mono ?_; rintro e w6 hL; unfold DPost at hL; obtain ⟨gq, gr, cr, rfl, n6, m6, bq, br, kq, kr, h6⟩ := hL; have Q := Lib.hid bq; have S := Lib.hid br; have B6 := Lib.hid (B4.out.trans (h6.mono B4.out.size)); clear bq br kq kr h6)
    | (go_at_call 25; with_reducible refine (N3.out _ _ _ (Nat.le_refl _) (by decide) (by rw [ED.out]; exact Q.out)).mono ?_; rintro e w7 hL; unfold LPost at hL; obtain ⟨g7, c7, rfl, n7, m7, b7, k7, h7⟩ := hL; have U7 := Lib.hid b7; have B7 := Lib.hid (B6.out.trans (h7.mono B6.out.size)); clear b7 k7 h7)
    | (go_at_call 20; with_reducible refine (WR.out _ _ _ n7 m7 U7.out).mono ?_; rintro e w8 ⟨rfl, rfl⟩))
  go_ret2
  exact ⟨rfl, B7.out⟩
set_option maxHeartbeats 4000000 in
set_option maxRecDepth 100000 in
theorem RB_5_32_tt (a b : Nat) (w : World) (ha : a < 18446744073709551616) (hb : b < 18446744073709551616) (h0 : Wd.cut 32 b ≠ 0) (ena : bt (Wd.cut 32 a) 31 = true) (enb : bt (Wd.cut 32 b) 31 = true) :
    Calls Try.prog 11 #[.int .i64 5, .int .i64 32, .int .u64 a, .int .u64 b] w fun e w' => e = .returned (.tuple #[.int .u64 ((Wd.bz 5 32 a b : Nat) : Int), .int .i64 ((Wd.tr 5 32 a b : Nat) : Int)]) ∧ Below w.heap.size w w' := by
  have hX : Wd.cut 32 a < 2 ^ 32 := Wd.cut_lt (n := 32) (.inl rfl) ha
  have hY : Wd.cut 32 b < 2 ^ 32 := Wd.cut_lt (n := 32) (.inl rfl) hb
  have L1 : Hid (∀ W : World, Calls Try.prog 19 #[.int .i64 32, .int .u64 a] W (LPost W.heap.size 32 (bt (Wd.cut 32 a)) W)) := Lib.hid (fun W => (List_any 32 a W (by decide) (by decide) ha).mono fun e w' h => h.is (vl_cut 32 a (.inl rfl) ha))
  have L2 : Hid (∀ W : World, Calls Try.prog 19 #[.int .i64 32, .int .u64 b] W (LPost W.heap.size 32 (bt (Wd.cut 32 b)) W)) := Lib.hid (fun W => (List_any 32 b W (by decide) (by decide) hb).mono fun e w' h => h.is (vl_cut 32 b (.inl rfl) hb))
  obtain ⟨r1, r2, hB0, hA, hB⟩ := rb_5 (n := 32) (.inl rfl) ha hb h0 ena enb
  have r1 : Wd.bz 5 32 a b = (2 ^ 32 - ab (2 ^ 32) (Wd.cut 32 a) true % ab (2 ^ 32) (Wd.cut 32 b) true) % 2 ^ 32 := r1
  have hA : ab (2 ^ 32) (Wd.cut 32 a) true < 2 ^ 32 := hA
  have hB : ab (2 ^ 32) (Wd.cut 32 b) true < 2 ^ 32 := hB
  have hB0 : ab (2 ^ 32) (Wd.cut 32 b) true ≠ 0 := hB0
  rw [r1, r2]
  clear r1 r2
  generalize Wd.cut 32 a = X at hX L1 ena hA ⊢
  generalize Wd.cut 32 b = Y at hY L2 h0 enb hB hB0 ⊢
  obtain ⟨N1v, eN1⟩ : ∃ z, z = (2 ^ 32 - X) % 2 ^ 32 := ⟨_, rfl⟩
  have eN1v' : ab (2 ^ 32) X true = N1v := by rw [eN1]; rfl
  obtain ⟨N2v, eN2⟩ : ∃ z, z = (2 ^ 32 - Y) % 2 ^ 32 := ⟨_, rfl⟩
  have eN2v' : ab (2 ^ 32) Y true = N2v := by rw [eN2]; rfl
  simp only [eN1v', eN2v'] at hA hB hB0 ⊢
  have N1 : Hid (∀ (W : World) (g c : Nat), 32 ≤ c → c ≤ 9223372036854775807 → Bo W g 32 (bt X) → Calls Try.prog 25 #[.slice (some ⟨g, 0, none⟩) 32 c] W (LPost W.heap.size 32 (bt N1v) W)) := Lib.hid (fun W g c a1 a2 b1 => by rw [eN1]; exact Neg_v g c 32 X W (by decide) (by decide) a1 a2 hX b1)
  have N2 : Hid (∀ (W : World) (g c : Nat), 32 ≤ c → c ≤ 9223372036854775807 → Bo W g 32 (bt Y) → Calls Try.prog 25 #[.slice (some ⟨g, 0, none⟩) 32 c] W (LPost W.heap.size 32 (bt N2v) W)) := Lib.hid (fun W g c a1 a2 b1 => by rw [eN2]; exact Neg_v g c 32 Y W (by decide) (by decide) a1 a2 hY b1)
  have hk : Y % 32 < 32 := Nat.mod_lt _ (by decide)
  have kk : (Y : Int) % 32 = ((Y % 32 : Nat) : Int) := by omega
  have kt : (Y : Int).tmod 32 = ((Y % 32 : Nat) : Int) := by rw [Int.tmod_eq_emod_of_nonneg (by omega)]; omega
  obtain ⟨k, ek⟩ : ∃ k, k = Y % 32 := ⟨_, rfl⟩
  rw [← ek] at hk kk kt
  have hYb : (Y : Int) < 18446744073709551616 := by omega
  have WY : Hid (∀ (W : World) (g c : Nat), 32 ≤ c → c ≤ 9223372036854775807 → Bo W g 32 (bt Y) → Calls Try.prog 20 #[.slice (some ⟨g, 0, none⟩) 32 c] W fun e w' => e = .returned (.int .u64 (Y : Int)) ∧ W = w') := Lib.hid (fun W g c a1 a2 b1 => Word_v g c 32 Y W (by decide) a1 a2 hY b1)
  have ZZ : Hid (∀ (W : World) (g c : Nat), 32 ≤ c → c ≤ 9223372036854775807 → Bo W g 32 (bt Y) → Calls Try.prog 24 #[.slice (some ⟨g, 0, none⟩) 32 c] W fun e w' => e = .returned (.bool false) ∧ W = w') := Lib.hid (fun W g c a1 a2 b1 => by
    have := Zero_v g c 32 Y W (by decide) a1 a2 hY b1
    rw [decide_eq_false h0] at this; exact this)
  have CD : Hid (∀ (W : World) (g1 c1 g2 c2 : Nat), 32 ≤ c1 → c1 ≤ 9223372036854775807 → 32 ≤ c2 → c2 ≤ 9223372036854775807 → Bo W g1 32 (bt N1v) → Bo W g2 32 (bt N2v) → Calls Try.prog 26 #[.slice (some ⟨g1, 0, none⟩) 32 c1, .slice (some ⟨g2, 0, none⟩) 32 c2] W (DPost W.heap.size 32 N1v N2v W)) := Lib.hid (fun W g1 c1 g2 c2 a1 a2 a3 a4 p1 p2 => Divide_v g1 c1 g2 c2 32 N1v N2v W (by decide) (by decide) a1 a3 a2 a4 hA hB hB0 p1 p2)
  obtain ⟨D, eD⟩ : ∃ R, R = N1v % N2v := ⟨_, rfl⟩
  have hD : D < 2 ^ 32 := by rw [eD]; exact Nat.lt_of_le_of_lt (Nat.mod_le _ _) hA
  have ED := Lib.hid eD
  rw [← eD]
  obtain ⟨N3v, eN3⟩ : ∃ R, R = (2 ^ 32 - D) % 2 ^ 32 := ⟨_, rfl⟩
  have hR : N3v < 2 ^ 32 := by rw [eN3]; exact Nat.mod_lt _ (Nat.two_pow_pos _)
  have N3 : Hid (∀ (W : World) (g c : Nat), 32 ≤ c → c ≤ 9223372036854775807 → Bo W g 32 (bt D) → Calls Try.prog 25 #[.slice (some ⟨g, 0, none⟩) 32 c] W (LPost W.heap.size 32 (bt N3v) W)) := Lib.hid (fun W g c a1 a2 b1 => by rw [eN3]; exact Neg_v g c 32 D W (by decide) (by decide) a1 a2 hD b1)
  have WR : Hid (∀ (W : World) (g c : Nat), 32 ≤ c → c ≤ 9223372036854775807 → Bo W g 32 (bt N3v) → Calls Try.prog 20 #[.slice (some ⟨g, 0, none⟩) 32 c] W fun e w' => e = .returned (.int .u64 (N3v : Int)) ∧ W = w') := Lib.hid (fun W g c a1 a2 b1 => Word_v g c 32 N3v W (by decide) a1 a2 hR b1)
  rw [← eN3]
  have ENA := Lib.hid ena
  have ENB := Lib.hid enb
  clear hX hY hA hB hB0 hD ek eD ha hb h0 ena enb eN1v' eN2v' eN1 eN2 hR eN3
  go_enter Try.func11, Try.ntmps11
  go_wp2_with (first
    | (go_at_call 19; with_reducible refine (L1.out _).mono ?_; rintro e w1 hL; unfold LPost at hL; obtain ⟨g1, c1, rfl, n1, m1, b1, k1, h1⟩ := hL; have P1 := Lib.hid b1; have B1 := Lib.hid h1; clear b1 k1 h1)
    | (go_at_call 19; with_reducible refine (L2.out _).mono ?_; rintro e w2 hL; unfold LPost at hL; obtain ⟨g2, c2, rfl, n2, m2, b2, k2, h2⟩ := hL; have P2 := Lib.hid b2; have P1' := Lib.hid (P1.out.below h2 P1.out.lt); have B2 := Lib.hid (B1.out.trans (h2.mono B1.out.size)); have x1 : w2.cell? ⟨g1, 31, none⟩ = some (.bool true) := (P1'.out.at_ (by decide)).trans (by rw [ENA.out]); have x2 : w2.cell? ⟨g2, 31, none⟩ = some (.bool true) := (P2.out.at_ (by decide)).trans (by rw [ENB.out]); clear b2 k2 h2)
    | (go_at_call 20; with_reducible refine (WY.out _ _ _ n2 m2 P2.out).mono ?_; rintro e w3 ⟨rfl, rfl⟩)
    | (go_at_call 24; with_reducible refine (ZZ.out _ _ _ n2 m2 P2.out).mono ?_; rintro e w3 ⟨rfl, rfl⟩))
  go_quiet (fail)
  have T1 := Lib.hid (fun k => P1'.out.drewN k)
  have T2 := Lib.hid (fun k => P2.out.drewN k)
  have TB := Lib.hid (fun k => drew_below B2.out k)
  clear x1 x2
  go_wp2_with (first
    | (go_at_call 25; with_reducible refine (N1.out _ _ _ n1 m1 (T1.out _)).mono ?_; rintro e w4 hL; unfold LPost at hL; obtain ⟨g4, c4, rfl, n4, m4, b4, k4, h4⟩ := hL; have U1 := Lib.hid b4; have T2' := Lib.hid ((T2.out _).below h4 (T2.out _).lt); have B4 := Lib.hid ((TB.out _).trans (h4.mono (TB.out _).size)); clear b4 k4 h4)
    | (go_at_call 25; with_reducible refine (N2.out _ _ _ n2 m2 T2'.out).mono ?_; rintro e w5 hL; unfold LPost at hL; obtain ⟨g5, c5, rfl, n5, m5, b5, k5, h5⟩ := hL; have U2 := Lib.hid b5; have V1 := Lib.hid (U1.out.below h5 U1.out.lt); have B5 := Lib.hid (B4.out.trans (h5.mono B4.out.size)); clear b5 k5 h5)
    | (go_at_call 26; with_reducible refine (CD.out _ _ _ _ _ n4 m4 n5 m5 V1.out U2.out).mono ?_; rintro e w6 hL; unfold DPost at hL; obtain ⟨gq, gr, cr, rfl, n6, m6, bq, br, kq, kr, h6⟩ := hL; have Q := Lib.hid bq; have S := Lib.hid br; have B6 := Lib.hid (B5.out.trans (h6.mono B5.out.size)); clear bq br kq kr h6)
    | (go_at_call 25; with_reducible refine (N3.out _ _ _ n6 m6 (by rw [ED.out]; exact S.out)).mono ?_; rintro e w7 hL; unfold LPost at hL; obtain ⟨g7, c7, rfl, n7, m7, b7, k7, h7⟩ := hL; have U7 := Lib.hid b7; have B7 := Lib.hid (B6.out.trans (h7.mono B6.out.size)); clear b7 k7 h7)
    | (go_at_call 20; with_reducible refine (WR.out _ _ _ n7 m7 U7.out).mono ?_; rintro e w8 ⟨rfl, rfl⟩))
  go_ret2
  exact ⟨rfl, B7.out⟩
set_option maxHeartbeats 4000000 in
set_option maxRecDepth 100000 in
theorem RB_3_32_tt_y (a b : Nat) (w : World) (ha : a < 18446744073709551616) (hb : b < 18446744073709551616) (h0 : Wd.cut 32 b ≠ 0) (ena : bt (Wd.cut 32 a) 31 = true) (enb : bt (Wd.cut 32 b) 31 = true) (hq : 2 ^ 31 ≤ ab (2 ^ 32) (Wd.cut 32 a) true / ab (2 ^ 32) (Wd.cut 32 b) true) :
    Calls Try.prog 11 #[.int .i64 3, .int .i64 32, .int .u64 a, .int .u64 b] w fun e w' => e = .returned (.tuple #[.int .u64 ((Wd.bz 3 32 a b : Nat) : Int), .int .i64 ((Wd.tr 3 32 a b : Nat) : Int)]) ∧ Below w.heap.size w w' := by
  have hX : Wd.cut 32 a < 2 ^ 32 := Wd.cut_lt (n := 32) (.inl rfl) ha
  have hY : Wd.cut 32 b < 2 ^ 32 := Wd.cut_lt (n := 32) (.inl rfl) hb
  have L1 : Hid (∀ W : World, Calls Try.prog 19 #[.int .i64 32, .int .u64 a] W (LPost W.heap.size 32 (bt (Wd.cut 32 a)) W)) := Lib.hid (fun W => (List_any 32 a W (by decide) (by decide) ha).mono fun e w' h => h.is (vl_cut 32 a (.inl rfl) ha))
  have L2 : Hid (∀ W : World, Calls Try.prog 19 #[.int .i64 32, .int .u64 b] W (LPost W.heap.size 32 (bt (Wd.cut 32 b)) W)) := Lib.hid (fun W => (List_any 32 b W (by decide) (by decide) hb).mono fun e w' h => h.is (vl_cut 32 b (.inl rfl) hb))
  obtain ⟨q1, q2, q3, hB0, hA, hB⟩ := rb_3 (n := 32) (.inl rfl) ha hb h0 ena enb
  obtain ⟨r1, r2⟩ := q1 rfl hq
  clear q1 q2 q3
  have hA : ab (2 ^ 32) (Wd.cut 32 a) true < 2 ^ 32 := hA
  have hB : ab (2 ^ 32) (Wd.cut 32 b) true < 2 ^ 32 := hB
  have hB0 : ab (2 ^ 32) (Wd.cut 32 b) true ≠ 0 := hB0
  rw [r1, r2]
  clear r1 r2
  generalize Wd.cut 32 a = X at hX L1 ena hA hq ⊢
  generalize Wd.cut 32 b = Y at hY L2 h0 enb hB hB0 hq ⊢
  obtain ⟨N1v, eN1⟩ : ∃ z, z = (2 ^ 32 - X) % 2 ^ 32 := ⟨_, rfl⟩
  have eN1v' : ab (2 ^ 32) X true = N1v := by rw [eN1]; rfl
  obtain ⟨N2v, eN2⟩ : ∃ z, z = (2 ^ 32 - Y) % 2 ^ 32 := ⟨_, rfl⟩
  have eN2v' : ab (2 ^ 32) Y true = N2v := by rw [eN2]; rfl
  simp only [eN1v', eN2v'] at hA hB hB0 hq ⊢
  have N1 : Hid (∀ (W : World) (g c : Nat), 32 ≤ c → c ≤ 9223372036854775807 → Bo W g 32 (bt X) → Calls Try.prog 25 #[.slice (some ⟨g, 0, none⟩) 32 c] W (LPost W.heap.size 32 (bt N1v) W)) := Lib.hid (fun W g c a1 a2 b1 => by rw [eN1]; exact Neg_v g c 32 X W (by decide) (by decide) a1 a2 hX b1)
  have N2 : Hid (∀ (W : World) (g c : Nat), 32 ≤ c → c ≤ 9223372036854775807 → Bo W g 32 (bt Y) → Calls Try.prog 25 #[.slice (some ⟨g, 0, none⟩) 32 c] W (LPost W.heap.size 32 (bt N2v) W)) := Lib.hid (fun W g c a1 a2 b1 => by rw [eN2]; exact Neg_v g c 32 Y W (by decide) (by decide) a1 a2 hY b1)
  have hk : Y % 32 < 32 := Nat.mod_lt _ (by decide)
  have kk : (Y : Int) % 32 = ((Y % 32 : Nat) : Int) := by omega
  have kt : (Y : Int).tmod 32 = ((Y % 32 : Nat) : Int) := by rw [Int.tmod_eq_emod_of_nonneg (by omega)]; omega
  obtain ⟨k, ek⟩ : ∃ k, k = Y % 32 := ⟨_, rfl⟩
  rw [← ek] at hk kk kt
  have hYb : (Y : Int) < 18446744073709551616 := by omega
  have WY : Hid (∀ (W : World) (g c : Nat), 32 ≤ c → c ≤ 9223372036854775807 → Bo W g 32 (bt Y) → Calls Try.prog 20 #[.slice (some ⟨g, 0, none⟩) 32 c] W fun e w' => e = .returned (.int .u64 (Y : Int)) ∧ W = w') := Lib.hid (fun W g c a1 a2 b1 => Word_v g c 32 Y W (by decide) a1 a2 hY b1)
  have ZZ : Hid (∀ (W : World) (g c : Nat), 32 ≤ c → c ≤ 9223372036854775807 → Bo W g 32 (bt Y) → Calls Try.prog 24 #[.slice (some ⟨g, 0, none⟩) 32 c] W fun e w' => e = .returned (.bool false) ∧ W = w') := Lib.hid (fun W g c a1 a2 b1 => by
    have := Zero_v g c 32 Y W (by decide) a1 a2 hY b1
    rw [decide_eq_false h0] at this; exact this)
  have CD : Hid (∀ (W : World) (g1 c1 g2 c2 : Nat), 32 ≤ c1 → c1 ≤ 9223372036854775807 → 32 ≤ c2 → c2 ≤ 9223372036854775807 → Bo W g1 32 (bt N1v) → Bo W g2 32 (bt N2v) → Calls Try.prog 26 #[.slice (some ⟨g1, 0, none⟩) 32 c1, .slice (some ⟨g2, 0, none⟩) 32 c2] W (DPost W.heap.size 32 N1v N2v W)) := Lib.hid (fun W g1 c1 g2 c2 a1 a2 a3 a4 p1 p2 => Divide_v g1 c1 g2 c2 32 N1v N2v W (by decide) (by decide) a1 a3 a2 a4 hA hB hB0 p1 p2)
  obtain ⟨D, eD⟩ : ∃ R, R = N1v / N2v := ⟨_, rfl⟩
  have hD : D < 2 ^ 32 := by rw [eD]; exact Nat.lt_of_le_of_lt (Nat.div_le_self _ _) hA
  have ED := Lib.hid eD
  try rw [← eD] at hq
  have ETOP : Hid (bt D 31 = true) := Lib.hid (by rw [top_bit (n := 31) hD]; simp; exact hq)
  have ENA := Lib.hid ena
  have ENB := Lib.hid enb
  clear hX hY hA hB hB0 hD ek eD ha hb h0 ena enb eN1v' eN2v' eN1 eN2 hq
  go_enter Try.func11, Try.ntmps11
  go_wp2_with (first
    | (go_at_call 19; with_reducible refine (L1.out _).mono ?_; rintro e w1 hL; unfold LPost at hL; obtain ⟨g1, c1, rfl, n1, m1, b1, k1, h1⟩ := hL; have P1 := Lib.hid b1; have B1 := Lib.hid h1; clear b1 k1 h1)
    | (go_at_call 19; with_reducible refine (L2.out _).mono ?_; rintro e w2 hL; unfold LPost at hL; obtain ⟨g2, c2, rfl, n2, m2, b2, k2, h2⟩ := hL; have P2 := Lib.hid b2; have P1' := Lib.hid (P1.out.below h2 P1.out.lt); have B2 := Lib.hid (B1.out.trans (h2.mono B1.out.size)); have x1 : w2.cell? ⟨g1, 31, none⟩ = some (.bool true) := (P1'.out.at_ (by decide)).trans (by rw [ENA.out]); have x2 : w2.cell? ⟨g2, 31, none⟩ = some (.bool true) := (P2.out.at_ (by decide)).trans (by rw [ENB.out]); clear b2 k2 h2)
    | (go_at_call 20; with_reducible refine (WY.out _ _ _ n2 m2 P2.out).mono ?_; rintro e w3 ⟨rfl, rfl⟩)
    | (go_at_call 24; with_reducible refine (ZZ.out _ _ _ n2 m2 P2.out).mono ?_; rintro e w3 ⟨rfl, rfl⟩))
  go_quiet (fail)
  have T1 := Lib.hid (fun k => P1'.out.drewN k)
  have T2 := Lib.hid (fun k => P2.out.drewN k)
  have TB := Lib.hid (fun k => drew_below B2.out k)
  clear x1 x2
  go_wp2_with (first
    | (go_at_call 25; with_reducible refine (N1.out _ _ _ n1 m1 (T1.out _)).mono ?_; rintro e w4 hL; unfold LPost at hL; obtain ⟨g4, c4, rfl, n4, m4, b4, k4, h4⟩ := hL; have U1 := Lib.hid b4; have T2' := Lib.hid ((T2.out _).below h4 (T2.out _).lt); have B4 := Lib.hid ((TB.out _).trans (h4.mono (TB.out _).size)); clear b4 k4 h4)
    | (go_at_call 25; with_reducible refine (N2.out _ _ _ n2 m2 T2'.out).mono ?_; rintro e w5 hL; unfold LPost at hL; obtain ⟨g5, c5, rfl, n5, m5, b5, k5, h5⟩ := hL; have U2 := Lib.hid b5; have V1 := Lib.hid (U1.out.below h5 U1.out.lt); have B5 := Lib.hid (B4.out.trans (h5.mono B4.out.size)); clear b5 k5 h5)
    | (go_at_call 26; with_reducible refine (CD.out _ _ _ _ _ n4 m4 n5 m5 V1.out U2.out).mono ?_; rintro e w6 hL; unfold DPost at hL; obtain ⟨gq, gr, cr, rfl, n6, m6, bq, br, kq, kr, h6⟩ := hL; have x3 : w6.cell? ⟨gq, 31, none⟩ = some (.bool true) := (bq.at_ (by decide)).trans (by rw [← ED.out, ETOP.out]); have Q := Lib.hid bq; have S := Lib.hid br; have B6 := Lib.hid (B5.out.trans (h6.mono B5.out.size)); clear bq br kq kr h6))
  go_ret2
  exact ⟨rfl, B6.out⟩
set_option maxHeartbeats 4000000 in
set_option maxRecDepth 100000 in
theorem RB_3_32_tt_n (a b : Nat) (w : World) (ha : a < 18446744073709551616) (hb : b < 18446744073709551616) (h0 : Wd.cut 32 b ≠ 0) (ena : bt (Wd.cut 32 a) 31 = true) (enb : bt (Wd.cut 32 b) 31 = true) (hq : ¬ 2 ^ 31 ≤ ab (2 ^ 32) (Wd.cut 32 a) true / ab (2 ^ 32) (Wd.cut 32 b) true) :
    Calls Try.prog 11 #[.int .i64 3, .int .i64 32, .int .u64 a, .int .u64 b] w fun e w' => e = .returned (.tuple #[.int .u64 ((Wd.bz 3 32 a b : Nat) : Int), .int .i64 ((Wd.tr 3 32 a b : Nat) : Int)]) ∧ Below w.heap.size w w' := by
  have hX : Wd.cut 32 a < 2 ^ 32 := Wd.cut_lt (n := 32) (.inl rfl) ha
  have hY : Wd.cut 32 b < 2 ^ 32 := Wd.cut_lt (n := 32) (.inl rfl) hb
  have L1 : Hid (∀ W : World, Calls Try.prog 19 #[.int .i64 32, .int .u64 a] W (LPost W.heap.size 32 (bt (Wd.cut 32 a)) W)) := Lib.hid (fun W => (List_any 32 a W (by decide) (by decide) ha).mono fun e w' h => h.is (vl_cut 32 a (.inl rfl) ha))
  have L2 : Hid (∀ W : World, Calls Try.prog 19 #[.int .i64 32, .int .u64 b] W (LPost W.heap.size 32 (bt (Wd.cut 32 b)) W)) := Lib.hid (fun W => (List_any 32 b W (by decide) (by decide) hb).mono fun e w' h => h.is (vl_cut 32 b (.inl rfl) hb))
  obtain ⟨q1, q2, q3, hB0, hA, hB⟩ := rb_3 (n := 32) (.inl rfl) ha hb h0 ena enb
  obtain ⟨r1, r2⟩ := q2 rfl hq
  clear q1 q2 q3
  have r1 : Wd.bz 3 32 a b = ab (2 ^ 32) (Wd.cut 32 a) true / ab (2 ^ 32) (Wd.cut 32 b) true := r1
  have hA : ab (2 ^ 32) (Wd.cut 32 a) true < 2 ^ 32 := hA
  have hB : ab (2 ^ 32) (Wd.cut 32 b) true < 2 ^ 32 := hB
  have hB0 : ab (2 ^ 32) (Wd.cut 32 b) true ≠ 0 := hB0
  rw [r1, r2]
  clear r1 r2
  generalize Wd.cut 32 a = X at hX L1 ena hA hq ⊢
  generalize Wd.cut 32 b = Y at hY L2 h0 enb hB hB0 hq ⊢
  obtain ⟨N1v, eN1⟩ : ∃ z, z = (2 ^ 32 - X) % 2 ^ 32 := ⟨_, rfl⟩
  have eN1v' : ab (2 ^ 32) X true = N1v := by rw [eN1]; rfl
  obtain ⟨N2v, eN2⟩ : ∃ z, z = (2 ^ 32 - Y) % 2 ^ 32 := ⟨_, rfl⟩
  have eN2v' : ab (2 ^ 32) Y true = N2v := by rw [eN2]; rfl
  simp only [eN1v', eN2v'] at hA hB hB0 hq ⊢
  have N1 : Hid (∀ (W : World) (g c : Nat), 32 ≤ c → c ≤ 9223372036854775807 → Bo W g 32 (bt X) → Calls Try.prog 25 #[.slice (some ⟨g, 0, none⟩) 32 c] W (LPost W.heap.size 32 (bt N1v) W)) := Lib.hid (fun W g c a1 a2 b1 => by rw [eN1]; exact Neg_v g c 32 X W (by decide) (by decide) a1 a2 hX b1)
  have N2 : Hid (∀ (W : World) (g c : Nat), 32 ≤ c → c ≤ 9223372036854775807 → Bo W g 32 (bt Y) → Calls Try.prog 25 #[.slice (some ⟨g, 0, none⟩) 32 c] W (LPost W.heap.size 32 (bt N2v) W)) := Lib.hid (fun W g c a1 a2 b1 => by rw [eN2]; exact Neg_v g c 32 Y W (by decide) (by decide) a1 a2 hY b1)
  have hk : Y % 32 < 32 := Nat.mod_lt _ (by decide)
  have kk : (Y : Int) % 32 = ((Y % 32 : Nat) : Int) := by omega
  have kt : (Y : Int).tmod 32 = ((Y % 32 : Nat) : Int) := by rw [Int.tmod_eq_emod_of_nonneg (by omega)]; omega
  obtain ⟨k, ek⟩ : ∃ k, k = Y % 32 := ⟨_, rfl⟩
  rw [← ek] at hk kk kt
  have hYb : (Y : Int) < 18446744073709551616 := by omega
  have WY : Hid (∀ (W : World) (g c : Nat), 32 ≤ c → c ≤ 9223372036854775807 → Bo W g 32 (bt Y) → Calls Try.prog 20 #[.slice (some ⟨g, 0, none⟩) 32 c] W fun e w' => e = .returned (.int .u64 (Y : Int)) ∧ W = w') := Lib.hid (fun W g c a1 a2 b1 => Word_v g c 32 Y W (by decide) a1 a2 hY b1)
  have ZZ : Hid (∀ (W : World) (g c : Nat), 32 ≤ c → c ≤ 9223372036854775807 → Bo W g 32 (bt Y) → Calls Try.prog 24 #[.slice (some ⟨g, 0, none⟩) 32 c] W fun e w' => e = .returned (.bool false) ∧ W = w') := Lib.hid (fun W g c a1 a2 b1 => by
    have := Zero_v g c 32 Y W (by decide) a1 a2 hY b1
    rw [decide_eq_false h0] at this; exact this)
  have CD : Hid (∀ (W : World) (g1 c1 g2 c2 : Nat), 32 ≤ c1 → c1 ≤ 9223372036854775807 → 32 ≤ c2 → c2 ≤ 9223372036854775807 → Bo W g1 32 (bt N1v) → Bo W g2 32 (bt N2v) → Calls Try.prog 26 #[.slice (some ⟨g1, 0, none⟩) 32 c1, .slice (some ⟨g2, 0, none⟩) 32 c2] W (DPost W.heap.size 32 N1v N2v W)) := Lib.hid (fun W g1 c1 g2 c2 a1 a2 a3 a4 p1 p2 => Divide_v g1 c1 g2 c2 32 N1v N2v W (by decide) (by decide) a1 a3 a2 a4 hA hB hB0 p1 p2)
  obtain ⟨D, eD⟩ : ∃ R, R = N1v / N2v := ⟨_, rfl⟩
  have hD : D < 2 ^ 32 := by rw [eD]; exact Nat.lt_of_le_of_lt (Nat.div_le_self _ _) hA
  have ED := Lib.hid eD
  rw [← eD] at hq ⊢
  have WR : Hid (∀ (W : World) (g c : Nat), 32 ≤ c → c ≤ 9223372036854775807 → Bo W g 32 (bt D) → Calls Try.prog 20 #[.slice (some ⟨g, 0, none⟩) 32 c] W fun e w' => e = .returned (.int .u64 (D : Int)) ∧ W = w') := Lib.hid (fun W g c a1 a2 b1 => Word_v g c 32 D W (by decide) a1 a2 hD b1)
  have ETOP : Hid (bt D 31 = false) := Lib.hid (by rw [top_bit (n := 31) hD]; simp; omega)
  have ENA := Lib.hid ena
  have ENB := Lib.hid enb
  clear hX hY hA hB hB0 hD ek eD ha hb h0 ena enb eN1v' eN2v' eN1 eN2 hq
  go_enter Try.func11, Try.ntmps11
  go_wp2_with (first
    | (go_at_call 19; with_reducible refine (L1.out _).mono ?_; rintro e w1 hL; unfold LPost at hL; obtain ⟨g1, c1, rfl, n1, m1, b1, k1, h1⟩ := hL; have P1 := Lib.hid b1; have B1 := Lib.hid h1; clear b1 k1 h1)
    | (go_at_call 19; with_reducible refine (L2.out _).mono ?_; rintro e w2 hL; unfold LPost at hL; obtain ⟨g2, c2, rfl, n2, m2, b2, k2, h2⟩ := hL; have P2 := Lib.hid b2; have P1' := Lib.hid (P1.out.below h2 P1.out.lt); have B2 := Lib.hid (B1.out.trans (h2.mono B1.out.size)); have x1 : w2.cell? ⟨g1, 31, none⟩ = some (.bool true) := (P1'.out.at_ (by decide)).trans (by rw [ENA.out]); have x2 : w2.cell? ⟨g2, 31, none⟩ = some (.bool true) := (P2.out.at_ (by decide)).trans (by rw [ENB.out]); clear b2 k2 h2)
    | (go_at_call 20; with_reducible refine (WY.out _ _ _ n2 m2 P2.out).mono ?_; rintro e w3 ⟨rfl, rfl⟩)
    | (go_at_call 24; with_reducible refine (ZZ.out _ _ _ n2 m2 P2.out).mono ?_; rintro e w3 ⟨rfl, rfl⟩))
  go_quiet (fail)
  have T1 := Lib.hid (fun k => P1'.out.drewN k)
  have T2 := Lib.hid (fun k => P2.out.drewN k)
  have TB := Lib.hid (fun k => drew_below B2.out k)
  clear x1 x2
  go_wp2_with (first
    | (go_at_call 25; with_reducible refine (N1.out _ _ _ n1 m1 (T1.out _)).mono ?_; rintro e w4 hL; unfold LPost at hL; obtain ⟨g4, c4, rfl, n4, m4, b4, k4, h4⟩ := hL; have U1 := Lib.hid b4; have T2' := Lib.hid ((T2.out _).below h4 (T2.out _).lt); have B4 := Lib.hid ((TB.out _).trans (h4.mono (TB.out _).size)); clear b4 k4 h4)
    | (go_at_call 25; with_reducible refine (N2.out _ _ _ n2 m2 T2'.out).mono ?_; rintro e w5 hL; unfold LPost at hL; obtain ⟨g5, c5, rfl, n5, m5, b5, k5, h5⟩ := hL; have U2 := Lib.hid b5; have V1 := Lib.hid (U1.out.below h5 U1.out.lt); have B5 := Lib.hid (B4.out.trans (h5.mono B4.out.size)); clear b5 k5 h5)
    | (go_at_call 26; with_reducible refine (CD.out _ _ _ _ _ n4 m4 n5 m5 V1.out U2.out).mono ?_; rintro e w6 hL; unfold DPost at hL; obtain ⟨gq, gr, cr, rfl, n6, m6, bq, br, kq, kr, h6⟩ := hL; have x3 : w6.cell? ⟨gq, 31, none⟩ = some (.bool false) := (bq.at_ (by decide)).trans (by rw [← ED.out, ETOP.out]); have Q := Lib.hid bq; have S := Lib.hid br; have B6 := Lib.hid (B5.out.trans (h6.mono B5.out.size)); clear bq br kq kr h6)
    | (go_at_call 20; with_reducible refine (WR.out _ _ _ (Nat.le_refl _) (by decide) (by rw [ED.out]; exact Q.out)).mono ?_; rintro e w8 ⟨rfl, rfl⟩))
  go_ret2
  exact ⟨rfl, B6.out⟩
set_option maxHeartbeats 4000000 in
set_option maxRecDepth 100000 in
theorem RB_3_64_z (a b : Nat) (w : World) (ha : a < 18446744073709551616) (hb : b < 18446744073709551616) (h0 : Wd.cut 64 b = 0) :
    Calls Try.prog 11 #[.int .i64 3, .int .i64 64, .int .u64 a, .int .u64 b] w fun e w' => e = .returned (.tuple #[.int .u64 ((Wd.bz 3 64 a b : Nat) : Int), .int .i64 ((Wd.tr 3 64 a b : Nat) : Int)]) ∧ Below w.heap.size w w' := by
  have hX : Wd.cut 64 a < 2 ^ 64 := Wd.cut_lt (n := 64) (.inr rfl) ha
  have hY : Wd.cut 64 b < 2 ^ 64 := Wd.cut_lt (n := 64) (.inr rfl) hb
  have L1 : Hid (∀ W : World, Calls Try.prog 19 #[.int .i64 64, .int .u64 a] W (LPost W.heap.size 64 (bt (Wd.cut 64 a)) W)) := Lib.hid (fun W => (List_any 64 a W (by decide) (by decide) ha).mono fun e w' h => h.is (vl_cut 64 a (.inr rfl) ha))
  have L2 : Hid (∀ W : World, Calls Try.prog 19 #[.int .i64 64, .int .u64 b] W (LPost W.heap.size 64 (bt (Wd.cut 64 b)) W)) := Lib.hid (fun W => (List_any 64 b W (by decide) (by decide) hb).mono fun e w' h => h.is (vl_cut 64 b (.inr rfl) hb))
  have HR := Lib.hid (rbz (op := 3) (n := 64) (a := a) (b := b) (by decide) (by decide) h0)
  rw [HR.out.1, HR.out.2]
  rw [h0] at hY L2
  have ZZ : Hid (∀ (W : World) (g c : Nat), 64 ≤ c → c ≤ 9223372036854775807 → Bo W g 64 (bt 0) → Calls Try.prog 24 #[.slice (some ⟨g, 0, none⟩) 64 c] W fun e w' => e = .returned (.bool true) ∧ W = w') := Lib.hid (fun W g c a1 a2 b1 => Zero_v g c 64 0 W (by decide) a1 a2 hY b1)
  have WY : Hid (∀ (W : World) (g c : Nat), 64 ≤ c → c ≤ 9223372036854775807 → Bo W g 64 (bt 0) → Calls Try.prog 20 #[.slice (some ⟨g, 0, none⟩) 64 c] W fun e w' => e = .returned (.int .u64 0) ∧ W = w') := Lib.hid (fun W g c a1 a2 b1 => Word_v g c 64 0 W (by decide) a1 a2 hY b1)
  clear hX hY HR ha hb h0
  go_enter Try.func11, Try.ntmps11
  go_wp2_with (first
    | (go_at_call 19; with_reducible refine (L1.out _).mono ?_; rintro e w1 hL; unfold LPost at hL; obtain ⟨g1, c1, rfl, n1, m1, b1, k1, h1⟩ := hL; have P1 := Lib.hid b1; have B1 := Lib.hid h1; clear b1 k1 h1)
    | (go_at_call 19; with_reducible refine (L2.out _).mono ?_; rintro e w2 hL; unfold LPost at hL; obtain ⟨g2, c2, rfl, n2, m2, b2, k2, h2⟩ := hL; have P2 := Lib.hid b2; have P1' := Lib.hid (P1.out.below h2 P1.out.lt); have B2 := Lib.hid (B1.out.trans (h2.mono B1.out.size)); clear b2 k2 h2)
    | (go_at_call 20; with_reducible refine (WY.out _ _ _ n2 m2 P2.out).mono ?_; rintro e w3 ⟨rfl, rfl⟩)
    | (go_at_call 24; with_reducible refine (ZZ.out _ _ _ n2 m2 P2.out).mono ?_; rintro e w3 ⟨rfl, rfl⟩))
  go_ret2
  exact ⟨rfl, B2.out⟩
set_option maxHeartbeats 4000000 in
set_option maxRecDepth 100000 in
theorem RB_4_64_z (a b : Nat) (w : World) (ha : a < 18446744073709551616) (hb : b < 18446744073709551616) (h0 : Wd.cut 64 b = 0) :
    Calls Try.prog 11 #[.int .i64 4, .int .i64 64, .int .u64 a, .int .u64 b] w fun e w' => e = .returned (.tuple #[.int .u64 ((Wd.bz 4 64 a b : Nat) : Int), .int .i64 ((Wd.tr 4 64 a b : Nat) : Int)]) ∧ Below w.heap.size w w' := by
  have hX : Wd.cut 64 a < 2 ^ 64 := Wd.cut_lt (n := 64) (.inr rfl) ha
  have hY : Wd.cut 64 b < 2 ^ 64 := Wd.cut_lt (n := 64) (.inr rfl) hb
  have L1 : Hid (∀ W : World, Calls Try.prog 19 #[.int .i64 64, .int .u64 a] W (LPost W.heap.size 64 (bt (Wd.cut 64 a)) W)) := Lib.hid (fun W => (List_any 64 a W (by decide) (by decide) ha).mono fun e w' h => h.is (vl_cut 64 a (.inr rfl) ha))
  have L2 : Hid (∀ W : World, Calls Try.prog 19 #[.int .i64 64, .int .u64 b] W (LPost W.heap.size 64 (bt (Wd.cut 64 b)) W)) := Lib.hid (fun W => (List_any 64 b W (by decide) (by decide) hb).mono fun e w' h => h.is (vl_cut 64 b (.inr rfl) hb))
  have HR := Lib.hid (rbz (op := 4) (n := 64) (a := a) (b := b) (by decide) (by decide) h0)
  rw [HR.out.1, HR.out.2]
  rw [h0] at hY L2
  have ZZ : Hid (∀ (W : World) (g c : Nat), 64 ≤ c → c ≤ 9223372036854775807 → Bo W g 64 (bt 0) → Calls Try.prog 24 #[.slice (some ⟨g, 0, none⟩) 64 c] W fun e w' => e = .returned (.bool true) ∧ W = w') := Lib.hid (fun W g c a1 a2 b1 => Zero_v g c 64 0 W (by decide) a1 a2 hY b1)
  have WY : Hid (∀ (W : World) (g c : Nat), 64 ≤ c → c ≤ 9223372036854775807 → Bo W g 64 (bt 0) → Calls Try.prog 20 #[.slice (some ⟨g, 0, none⟩) 64 c] W fun e w' => e = .returned (.int .u64 0) ∧ W = w') := Lib.hid (fun W g c a1 a2 b1 => Word_v g c 64 0 W (by decide) a1 a2 hY b1)
  clear hX hY HR ha hb h0
  go_enter Try.func11, Try.ntmps11
  go_wp2_with (first
    | (go_at_call 19; with_reducible refine (L1.out _).mono ?_; rintro e w1 hL; unfold LPost at hL; obtain ⟨g1, c1, rfl, n1, m1, b1, k1, h1⟩ := hL; have P1 := Lib.hid b1; have B1 := Lib.hid h1; clear b1 k1 h1)
    | (go_at_call 19; with_reducible refine (L2.out _).mono ?_; rintro e w2 hL; unfold LPost at hL; obtain ⟨g2, c2, rfl, n2, m2, b2, k2, h2⟩ := hL; have P2 := Lib.hid b2; have P1' := Lib.hid (P1.out.below h2 P1.out.lt); have B2 := Lib.hid (B1.out.trans (h2.mono B1.out.size)); clear b2 k2 h2)
    | (go_at_call 20; with_reducible refine (WY.out _ _ _ n2 m2 P2.out).mono ?_; rintro e w3 ⟨rfl, rfl⟩)
    | (go_at_call 24; with_reducible refine (ZZ.out _ _ _ n2 m2 P2.out).mono ?_; rintro e w3 ⟨rfl, rfl⟩))
  go_ret2
  exact ⟨rfl, B2.out⟩
set_option maxHeartbeats 4000000 in
set_option maxRecDepth 100000 in
theorem RB_5_64_z (a b : Nat) (w : World) (ha : a < 18446744073709551616) (hb : b < 18446744073709551616) (h0 : Wd.cut 64 b = 0) :
    Calls Try.prog 11 #[.int .i64 5, .int .i64 64, .int .u64 a, .int .u64 b] w fun e w' => e = .returned (.tuple #[.int .u64 ((Wd.bz 5 64 a b : Nat) : Int), .int .i64 ((Wd.tr 5 64 a b : Nat) : Int)]) ∧ Below w.heap.size w w' := by
  have hX : Wd.cut 64 a < 2 ^ 64 := Wd.cut_lt (n := 64) (.inr rfl) ha
  have hY : Wd.cut 64 b < 2 ^ 64 := Wd.cut_lt (n := 64) (.inr rfl) hb
  have L1 : Hid (∀ W : World, Calls Try.prog 19 #[.int .i64 64, .int .u64 a] W (LPost W.heap.size 64 (bt (Wd.cut 64 a)) W)) := Lib.hid (fun W => (List_any 64 a W (by decide) (by decide) ha).mono fun e w' h => h.is (vl_cut 64 a (.inr rfl) ha))
  have L2 : Hid (∀ W : World, Calls Try.prog 19 #[.int .i64 64, .int .u64 b] W (LPost W.heap.size 64 (bt (Wd.cut 64 b)) W)) := Lib.hid (fun W => (List_any 64 b W (by decide) (by decide) hb).mono fun e w' h => h.is (vl_cut 64 b (.inr rfl) hb))
  have HR := Lib.hid (rbz (op := 5) (n := 64) (a := a) (b := b) (by decide) (by decide) h0)
  rw [HR.out.1, HR.out.2]
  rw [h0] at hY L2
  have ZZ : Hid (∀ (W : World) (g c : Nat), 64 ≤ c → c ≤ 9223372036854775807 → Bo W g 64 (bt 0) → Calls Try.prog 24 #[.slice (some ⟨g, 0, none⟩) 64 c] W fun e w' => e = .returned (.bool true) ∧ W = w') := Lib.hid (fun W g c a1 a2 b1 => Zero_v g c 64 0 W (by decide) a1 a2 hY b1)
  have WY : Hid (∀ (W : World) (g c : Nat), 64 ≤ c → c ≤ 9223372036854775807 → Bo W g 64 (bt 0) → Calls Try.prog 20 #[.slice (some ⟨g, 0, none⟩) 64 c] W fun e w' => e = .returned (.int .u64 0) ∧ W = w') := Lib.hid (fun W g c a1 a2 b1 => Word_v g c 64 0 W (by decide) a1 a2 hY b1)
  clear hX hY HR ha hb h0
  go_enter Try.func11, Try.ntmps11
  go_wp2_with (first
    | (go_at_call 19; with_reducible refine (L1.out _).mono ?_; rintro e w1 hL; unfold LPost at hL; obtain ⟨g1, c1, rfl, n1, m1, b1, k1, h1⟩ := hL; have P1 := Lib.hid b1; have B1 := Lib.hid h1; clear b1 k1 h1)
    | (go_at_call 19; with_reducible refine (L2.out _).mono ?_; rintro e w2 hL; unfold LPost at hL; obtain ⟨g2, c2, rfl, n2, m2, b2, k2, h2⟩ := hL; have P2 := Lib.hid b2; have P1' := Lib.hid (P1.out.below h2 P1.out.lt); have B2 := Lib.hid (B1.out.trans (h2.mono B1.out.size)); clear b2 k2 h2)
    | (go_at_call 20; with_reducible refine (WY.out _ _ _ n2 m2 P2.out).mono ?_; rintro e w3 ⟨rfl, rfl⟩)
    | (go_at_call 24; with_reducible refine (ZZ.out _ _ _ n2 m2 P2.out).mono ?_; rintro e w3 ⟨rfl, rfl⟩))
  go_ret2
  exact ⟨rfl, B2.out⟩
set_option maxHeartbeats 4000000 in
set_option maxRecDepth 100000 in
theorem RB_6_64_z (a b : Nat) (w : World) (ha : a < 18446744073709551616) (hb : b < 18446744073709551616) (h0 : Wd.cut 64 b = 0) :
    Calls Try.prog 11 #[.int .i64 6, .int .i64 64, .int .u64 a, .int .u64 b] w fun e w' => e = .returned (.tuple #[.int .u64 ((Wd.bz 6 64 a b : Nat) : Int), .int .i64 ((Wd.tr 6 64 a b : Nat) : Int)]) ∧ Below w.heap.size w w' := by
  have hX : Wd.cut 64 a < 2 ^ 64 := Wd.cut_lt (n := 64) (.inr rfl) ha
  have hY : Wd.cut 64 b < 2 ^ 64 := Wd.cut_lt (n := 64) (.inr rfl) hb
  have L1 : Hid (∀ W : World, Calls Try.prog 19 #[.int .i64 64, .int .u64 a] W (LPost W.heap.size 64 (bt (Wd.cut 64 a)) W)) := Lib.hid (fun W => (List_any 64 a W (by decide) (by decide) ha).mono fun e w' h => h.is (vl_cut 64 a (.inr rfl) ha))
  have L2 : Hid (∀ W : World, Calls Try.prog 19 #[.int .i64 64, .int .u64 b] W (LPost W.heap.size 64 (bt (Wd.cut 64 b)) W)) := Lib.hid (fun W => (List_any 64 b W (by decide) (by decide) hb).mono fun e w' h => h.is (vl_cut 64 b (.inr rfl) hb))
  have HR := Lib.hid (rbz (op := 6) (n := 64) (a := a) (b := b) (by decide) (by decide) h0)
  rw [HR.out.1, HR.out.2]
  rw [h0] at hY L2
  have ZZ : Hid (∀ (W : World) (g c : Nat), 64 ≤ c → c ≤ 9223372036854775807 → Bo W g 64 (bt 0) → Calls Try.prog 24 #[.slice (some ⟨g, 0, none⟩) 64 c] W fun e w' => e = .returned (.bool true) ∧ W = w') := Lib.hid (fun W g c a1 a2 b1 => Zero_v g c 64 0 W (by decide) a1 a2 hY b1)
  have WY : Hid (∀ (W : World) (g c : Nat), 64 ≤ c → c ≤ 9223372036854775807 → Bo W g 64 (bt 0) → Calls Try.prog 20 #[.slice (some ⟨g, 0, none⟩) 64 c] W fun e w' => e = .returned (.int .u64 0) ∧ W = w') := Lib.hid (fun W g c a1 a2 b1 => Word_v g c 64 0 W (by decide) a1 a2 hY b1)
  clear hX hY HR ha hb h0
  go_enter Try.func11, Try.ntmps11
  go_wp2_with (first
    | (go_at_call 19; with_reducible refine (L1.out _).mono ?_; rintro e w1 hL; unfold LPost at hL; obtain ⟨g1, c1, rfl, n1, m1, b1, k1, h1⟩ := hL; have P1 := Lib.hid b1; have B1 := Lib.hid h1; clear b1 k1 h1)
    | (go_at_call 19; with_reducible refine (L2.out _).mono ?_; rintro e w2 hL; unfold LPost at hL; obtain ⟨g2, c2, rfl, n2, m2, b2, k2, h2⟩ := hL; have P2 := Lib.hid b2; have P1' := Lib.hid (P1.out.below h2 P1.out.lt); have B2 := Lib.hid (B1.out.trans (h2.mono B1.out.size)); clear b2 k2 h2)
    | (go_at_call 20; with_reducible refine (WY.out _ _ _ n2 m2 P2.out).mono ?_; rintro e w3 ⟨rfl, rfl⟩)
    | (go_at_call 24; with_reducible refine (ZZ.out _ _ _ n2 m2 P2.out).mono ?_; rintro e w3 ⟨rfl, rfl⟩))
  go_ret2
  exact ⟨rfl, B2.out⟩
set_option maxHeartbeats 4000000 in
set_option maxRecDepth 100000 in
theorem RB_4_64_n (a b : Nat) (w : World) (ha : a < 18446744073709551616) (hb : b < 18446744073709551616) (h0 : Wd.cut 64 b ≠ 0) :
    Calls Try.prog 11 #[.int .i64 4, .int .i64 64, .int .u64 a, .int .u64 b] w fun e w' => e = .returned (.tuple #[.int .u64 ((Wd.bz 4 64 a b : Nat) : Int), .int .i64 ((Wd.tr 4 64 a b : Nat) : Int)]) ∧ Below w.heap.size w w' := by
  have hX : Wd.cut 64 a < 2 ^ 64 := Wd.cut_lt (n := 64) (.inr rfl) ha
  have hY : Wd.cut 64 b < 2 ^ 64 := Wd.cut_lt (n := 64) (.inr rfl) hb
  have L1 : Hid (∀ W : World, Calls Try.prog 19 #[.int .i64 64, .int .u64 a] W (LPost W.heap.size 64 (bt (Wd.cut 64 a)) W)) := Lib.hid (fun W => (List_any 64 a W (by decide) (by decide) ha).mono fun e w' h => h.is (vl_cut 64 a (.inr rfl) ha))
  have L2 : Hid (∀ W : World, Calls Try.prog 19 #[.int .i64 64, .int .u64 b] W (LPost W.heap.size 64 (bt (Wd.cut 64 b)) W)) := Lib.hid (fun W => (List_any 64 b W (by decide) (by decide) hb).mono fun e w' h => h.is (vl_cut 64 b (.inr rfl) hb))
  have HR0 := Lib.hid (rb_46 (n := 64) (a := a) (b := b) h0).1
  rw [HR0.out.1, HR0.out.2]
  clear HR0
  generalize Wd.cut 64 a = X at hX L1
  generalize Wd.cut 64 b = Y at hY L2 h0
  have hA := hX
  have hB := hY
  have hB0 := h0
  have hk : Y % 64 < 64 := Nat.mod_lt _ (by decide)
  have kk : (Y : Int) % 64 = ((Y % 64 : Nat) : Int) := by omega
  have kt : (Y : Int).tmod 64 = ((Y % 64 : Nat) : Int) := by rw [Int.tmod_eq_emod_of_nonneg (by omega)]; omega
  obtain ⟨k, ek⟩ : ∃ k, k = Y % 64 := ⟨_, rfl⟩
  rw [← ek] at hk kk kt
  have hYb : (Y : Int) < 18446744073709551616 := by omega
  have WY : Hid (∀ (W : World) (g c : Nat), 64 ≤ c → c ≤ 9223372036854775807 → Bo W g 64 (bt Y) → Calls Try.prog 20 #[.slice (some ⟨g, 0, none⟩) 64 c] W fun e w' => e = .returned (.int .u64 (Y : Int)) ∧ W = w') := Lib.hid (fun W g c a1 a2 b1 => Word_v g c 64 Y W (by decide) a1 a2 hY b1)
  have ZZ : Hid (∀ (W : World) (g c : Nat), 64 ≤ c → c ≤ 9223372036854775807 → Bo W g 64 (bt Y) → Calls Try.prog 24 #[.slice (some ⟨g, 0, none⟩) 64 c] W fun e w' => e = .returned (.bool false) ∧ W = w') := Lib.hid (fun W g c a1 a2 b1 => by
    have := Zero_v g c 64 Y W (by decide) a1 a2 hY b1
    rw [decide_eq_false h0] at this; exact this)
  have CD : Hid (∀ (W : World) (g1 c1 g2 c2 : Nat), 64 ≤ c1 → c1 ≤ 9223372036854775807 → 64 ≤ c2 → c2 ≤ 9223372036854775807 → Bo W g1 64 (bt X) → Bo W g2 64 (bt Y) → Calls Try.prog 26 #[.slice (some ⟨g1, 0, none⟩) 64 c1, .slice (some ⟨g2, 0, none⟩) 64 c2] W (DPost W.heap.size 64 X Y W)) := Lib.hid (fun W g1 c1 g2 c2 a1 a2 a3 a4 p1 p2 => Divide_v g1 c1 g2 c2 64 X Y W (by decide) (by decide) a1 a3 a2 a4 hA hB hB0 p1 p2)
  obtain ⟨R, eR⟩ : ∃ R, R = X / Y := ⟨_, rfl⟩
  have hR : R < 2 ^ 64 := by rw [eR]; exact Nat.lt_of_le_of_lt (Nat.div_le_self _ _) hX
  have WR : Hid (∀ (W : World) (g c : Nat), 64 ≤ c → c ≤ 9223372036854775807 → Bo W g 64 (bt R) → Calls Try.prog 20 #[.slice (some ⟨g, 0, none⟩) 64 c] W fun e w' => e = .returned (.int .u64 (R : Int)) ∧ W = w') := Lib.hid (fun W g c a1 a2 b1 => Word_v g c 64 R W (by decide) a1 a2 hR b1)
  have ER := Lib.hid eR
  rw [← eR]
  clear hX hA hB hB0 hR ek eR ha hb h0
  go_enter Try.func11, Try.ntmps11
  go_wp2_with (first
    | (go_at_call 19; with_reducible refine (L1.out _).mono ?_; rintro e w1 hL; unfold LPost at hL; obtain ⟨g1, c1, rfl, n1, m1, b1, k1, h1⟩ := hL; have P1 := Lib.hid b1; have B1 := Lib.hid h1; clear b1 k1 h1)
    | (go_at_call 19; with_reducible refine (L2.out _).mono ?_; rintro e w2 hL; unfold LPost at hL; obtain ⟨g2, c2, rfl, n2, m2, b2, k2, h2⟩ := hL; have P2 := Lib.hid b2; have P1' := Lib.hid (P1.out.below h2 P1.out.lt); have B2 := Lib.hid (B1.out.trans (h2.mono B1.out.size)); clear b2 k2 h2)
    | (go_at_call 20; with_reducible refine (WY.out _ _ _ n2 m2 P2.out).mono ?_; rintro e w3 ⟨rfl, rfl⟩)
    | (go_at_call 24; with_reducible refine (ZZ.out _ _ _ n2 m2 P2.out).mono ?_; rintro e w3 ⟨rfl, rfl⟩))
  go_quiet (fail)
  go_wp2_with (first
    | (go_at_call 26; with_reducible refine (CD.out _ _ _ _ _ n1 m1 n2 m2 (P1'.out.drewN _) (P2.out.drewN _)).mono ?_; rintro e w4 hL; unfold DPost at hL; obtain ⟨gq, gr, cr, rfl, n3, m3, bq, br, kq, kr, h3⟩ := hL; have Q := Lib.hid bq; have S := Lib.hid br; have B3 := Lib.hid ((drew_below B2.out _).trans (h3.mono (drew_below B2.out _).size)); clear bq br kq kr h3)
    | (go_at_call 20; with_reducible refine (WR.out _ _ _ (Nat.le_refl _) (by decide) (by rw [ER.out]; exact Q.out)).mono ?_; rintro e w5 ⟨rfl, rfl⟩))
  go_ret2
  exact ⟨rfl, B3.out⟩
set_option maxHeartbeats 4000000 in
set_option maxRecDepth 100000 in
theorem RB_6_64_n (a b : Nat) (w : World) (ha : a < 18446744073709551616) (hb : b < 18446744073709551616) (h0 : Wd.cut 64 b ≠ 0) :
    Calls Try.prog 11 #[.int .i64 6, .int .i64 64, .int .u64 a, .int .u64 b] w fun e w' => e = .returned (.tuple #[.int .u64 ((Wd.bz 6 64 a b : Nat) : Int), .int .i64 ((Wd.tr 6 64 a b : Nat) : Int)]) ∧ Below w.heap.size w w' := by
  have hX : Wd.cut 64 a < 2 ^ 64 := Wd.cut_lt (n := 64) (.inr rfl) ha
  have hY : Wd.cut 64 b < 2 ^ 64 := Wd.cut_lt (n := 64) (.inr rfl) hb
  have L1 : Hid (∀ W : World, Calls Try.prog 19 #[.int .i64 64, .int .u64 a] W (LPost W.heap.size 64 (bt (Wd.cut 64 a)) W)) := Lib.hid (fun W => (List_any 64 a W (by decide) (by decide) ha).mono fun e w' h => h.is (vl_cut 64 a (.inr rfl) ha))
  have L2 : Hid (∀ W : World, Calls Try.prog 19 #[.int .i64 64, .int .u64 b] W (LPost W.heap.size 64 (bt (Wd.cut 64 b)) W)) := Lib.hid (fun W => (List_any 64 b W (by decide) (by decide) hb).mono fun e w' h => h.is (vl_cut 64 b (.inr rfl) hb))
  have HR0 := Lib.hid (rb_46 (n := 64) (a := a) (b := b) h0).2
  rw [HR0.out.1, HR0.out.2]
  clear HR0
  generalize Wd.cut 64 a = X at hX L1
  generalize Wd.cut 64 b = Y at hY L2 h0
  have hA := hX
  have hB := hY
  have hB0 := h0
  have hk : Y % 64 < 64 := Nat.mod_lt _ (by decide)
  have kk : (Y : Int) % 64 = ((Y % 64 : Nat) : Int) := by omega
  have kt : (Y : Int).tmod 64 = ((Y % 64 : Nat) : Int) := by rw [Int.tmod_eq_emod_of_nonneg (by omega)]; omega
  obtain ⟨k, ek⟩ : ∃ k, k = Y % 64 := ⟨_, rfl⟩
  rw [← ek] at hk kk kt
  have hYb : (Y : Int) < 18446744073709551616 := by omega
  have WY : Hid (∀ (W : World) (g c : Nat), 64 ≤ c → c ≤ 9223372036854775807 → Bo W g 64 (bt Y) → Calls Try.prog 20 #[.slice (some ⟨g, 0, none⟩) 64 c] W fun e w' => e = .returned (.int .u64 (Y : Int)) ∧ W = w') := Lib.hid (fun W g c a1 a2 b1 => Word_v g c 64 Y W (by decide) a1 a2 hY b1)
  have ZZ : Hid (∀ (W : World) (g c : Nat), 64 ≤ c → c ≤ 9223372036854775807 → Bo W g 64 (bt Y) → Calls Try.prog 24 #[.slice (some ⟨g, 0, none⟩) 64 c] W fun e w' => e = .returned (.bool false) ∧ W = w') := Lib.hid (fun W g c a1 a2 b1 => by
    have := Zero_v g c 64 Y W (by decide) a1 a2 hY b1
    rw [decide_eq_false h0] at this; exact this)
  have CD : Hid (∀ (W : World) (g1 c1 g2 c2 : Nat), 64 ≤ c1 → c1 ≤ 9223372036854775807 → 64 ≤ c2 → c2 ≤ 9223372036854775807 → Bo W g1 64 (bt X) → Bo W g2 64 (bt Y) → Calls Try.prog 26 #[.slice (some ⟨g1, 0, none⟩) 64 c1, .slice (some ⟨g2, 0, none⟩) 64 c2] W (DPost W.heap.size 64 X Y W)) := Lib.hid (fun W g1 c1 g2 c2 a1 a2 a3 a4 p1 p2 => Divide_v g1 c1 g2 c2 64 X Y W (by decide) (by decide) a1 a3 a2 a4 hA hB hB0 p1 p2)
  obtain ⟨R, eR⟩ : ∃ R, R = X % Y := ⟨_, rfl⟩
  have hR : R < 2 ^ 64 := by rw [eR]; exact Nat.lt_of_le_of_lt (Nat.mod_le _ _) hX
  have WR : Hid (∀ (W : World) (g c : Nat), 64 ≤ c → c ≤ 9223372036854775807 → Bo W g 64 (bt R) → Calls Try.prog 20 #[.slice (some ⟨g, 0, none⟩) 64 c] W fun e w' => e = .returned (.int .u64 (R : Int)) ∧ W = w') := Lib.hid (fun W g c a1 a2 b1 => Word_v g c 64 R W (by decide) a1 a2 hR b1)
  have ER := Lib.hid eR
  rw [← eR]
  clear hX hA hB hB0 hR ek eR ha hb h0
  go_enter Try.func11, Try.ntmps11
  go_wp2_with (first
    | (go_at_call 19; with_reducible refine (L1.out _).mono ?_; rintro e w1 hL; unfold LPost at hL; obtain ⟨g1, c1, rfl, n1, m1, b1, k1, h1⟩ := hL; have P1 := Lib.hid b1; have B1 := Lib.hid h1; clear b1 k1 h1)
    | (go_at_call 19; with_reducible refine (L2.out _).mono ?_; rintro e w2 hL; unfold LPost at hL; obtain ⟨g2, c2, rfl, n2, m2, b2, k2, h2⟩ := hL; have P2 := Lib.hid b2; have P1' := Lib.hid (P1.out.below h2 P1.out.lt); have B2 := Lib.hid (B1.out.trans (h2.mono B1.out.size)); clear b2 k2 h2)
    | (go_at_call 20; with_reducible refine (WY.out _ _ _ n2 m2 P2.out).mono ?_; rintro e w3 ⟨rfl, rfl⟩)
    | (go_at_call 24; with_reducible refine (ZZ.out _ _ _ n2 m2 P2.out).mono ?_; rintro e w3 ⟨rfl, rfl⟩))
  go_quiet (fail)
  go_wp2_with (first
    | (go_at_call 26; with_reducible refine (CD.out _ _ _ _ _ n1 m1 n2 m2 (P1'.out.drewN _) (P2.out.drewN _)).mono ?_; rintro e w4 hL; unfold DPost at hL; obtain ⟨gq, gr, cr, rfl, n3, m3, bq, br, kq, kr, h3⟩ := hL; have Q := Lib.hid bq; have S := Lib.hid br; have B3 := Lib.hid ((drew_below B2.out _).trans (h3.mono (drew_below B2.out _).size)); clear bq br kq kr h3)
    | (go_at_call 20; with_reducible refine (WR.out _ _ _ n3 m3 (by rw [ER.out]; exact S.out)).mono ?_; rintro e w5 ⟨rfl, rfl⟩))
  go_ret2
  exact ⟨rfl, B3.out⟩
set_option maxHeartbeats 4000000 in
set_option maxRecDepth 100000 in
theorem RB_5_64_ff (a b : Nat) (w : World) (ha : a < 18446744073709551616) (hb : b < 18446744073709551616) (h0 : Wd.cut 64 b ≠ 0) (ena : bt (Wd.cut 64 a) 63 = false) (enb : bt (Wd.cut 64 b) 63 = false) :
    Calls Try.prog 11 #[.int .i64 5, .int .i64 64, .int .u64 a, .int .u64 b] w fun e w' => e = .returned (.tuple #[.int .u64 ((Wd.bz 5 64 a b : Nat) : Int), .int .i64 ((Wd.tr 5 64 a b : Nat) : Int)]) ∧ Below w.heap.size w w' := by
  have hX : Wd.cut 64 a < 2 ^ 64 := Wd.cut_lt (n := 64) (.inr rfl) ha
  have hY : Wd.cut 64 b < 2 ^ 64 := Wd.cut_lt (n := 64) (.inr rfl) hb
  have L1 : Hid (∀ W : World, Calls Try.prog 19 #[.int .i64 64, .int .u64 a] W (LPost W.heap.size 64 (bt (Wd.cut 64 a)) W)) := Lib.hid (fun W => (List_any 64 a W (by decide) (by decide) ha).mono fun e w' h => h.is (vl_cut 64 a (.inr rfl) ha))
  have L2 : Hid (∀ W : World, Calls Try.prog 19 #[.int .i64 64, .int .u64 b] W (LPost W.heap.size 64 (bt (Wd.cut 64 b)) W)) := Lib.hid (fun W => (List_any 64 b W (by decide) (by decide) hb).mono fun e w' h => h.is (vl_cut 64 b (.inr rfl) hb))
  obtain ⟨r1, r2, hB0, hA, hB⟩ := rb_5 (n := 64) (.inr rfl) ha hb h0 ena enb
  have r1 : Wd.bz 5 64 a b = ab (2 ^ 64) (Wd.cut 64 a) false % ab (2 ^ 64) (Wd.cut 64 b) false := r1
  have hA : ab (2 ^ 64) (Wd.cut 64 a) false < 2 ^ 64 := hA
  have hB : ab (2 ^ 64) (Wd.cut 64 b) false < 2 ^ 64 := hB
  have hB0 : ab (2 ^ 64) (Wd.cut 64 b) false ≠ 0 := hB0
  rw [r1, r2]
  clear r1 r2
  generalize Wd.cut 64 a = X at hX L1 ena hA ⊢
  generalize Wd.cut 64 b = Y at hY L2 h0 enb hB hB0 ⊢
  obtain ⟨N1v, eN1⟩ : ∃ z, z = X := ⟨_, rfl⟩
  have eN1v' : ab (2 ^ 64) X false = N1v := by rw [eN1]; rfl
  obtain ⟨N2v, eN2⟩ : ∃ z, z = Y := ⟨_, rfl⟩
  have eN2v' : ab (2 ^ 64) Y false = N2v := by rw [eN2]; rfl
  simp only [eN1v', eN2v'] at hA hB hB0 ⊢
  have hk : Y % 64 < 64 := Nat.mod_lt _ (by decide)
  have kk : (Y : Int) % 64 = ((Y % 64 : Nat) : Int) := by omega
  have kt : (Y : Int).tmod 64 = ((Y % 64 : Nat) : Int) := by rw [Int.tmod_eq_emod_of_nonneg (by omega)]; omega
  obtain ⟨k, ek⟩ : ∃ k, k = Y % 64 := ⟨_, rfl⟩
  rw [← ek] at hk kk kt
  have hYb : (Y : Int) < 18446744073709551616 := by omega
  have WY : Hid (∀ (W : World) (g c : Nat), 64 ≤ c → c ≤ 9223372036854775807 → Bo W g 64 (bt Y) → Calls Try.prog 20 #[.slice (some ⟨g, 0, none⟩) 64 c] W fun e w' => e = .returned (.int .u64 (Y : Int)) ∧ W = w') := Lib.hid (fun W g c a1 a2 b1 => Word_v g c 64 Y W (by decide) a1 a2 hY b1)
  have ZZ : Hid (∀ (W : World) (g c : Nat), 64 ≤ c → c ≤ 9223372036854775807 → Bo W g 64 (bt Y) → Calls Try.prog 24 #[.slice (some ⟨g, 0, none⟩) 64 c] W fun e w' => e = .returned (.bool false) ∧ W = w') := Lib.hid (fun W g c a1 a2 b1 => by
    have := Zero_v g c 64 Y W (by decide) a1 a2 hY b1
    rw [decide_eq_false h0] at this; exact this)
  have CD : Hid (∀ (W : World) (g1 c1 g2 c2 : Nat), 64 ≤ c1 → c1 ≤ 9223372036854775807 → 64 ≤ c2 → c2 ≤ 9223372036854775807 → Bo W g1 64 (bt N1v) → Bo W g2 64 (bt N2v) → Calls Try.prog 26 #[.slice (some ⟨g1, 0, none⟩) 64 c1, .slice (some ⟨g2, 0, none⟩) 64 c2] W (DPost W.heap.size 64 N1v N2v W)) := Lib.hid (fun W g1 c1 g2 c2 a1 a2 a3 a4 p1 p2 => Divide_v g1 c1 g2 c2 64 N1v N2v W (by decide) (by decide) a1 a3 a2 a4 hA hB hB0 p1 p2)
  obtain ⟨D, eD⟩ : ∃ R, R = N1v % N2v := ⟨_, rfl⟩
  have hD : D < 2 ^ 64 := by rw [eD]; exact Nat.lt_of_le_of_lt (Nat.mod_le _ _) hA
  have ED := Lib.hid eD
  rw [← eD]
  have WR : Hid (∀ (W : World) (g c : Nat), 64 ≤ c → c ≤ 9223372036854775807 → Bo W g 64 (bt D) → Calls Try.prog 20 #[.slice (some ⟨g, 0, none⟩) 64 c] W fun e w' => e = .returned (.int .u64 (D : Int)) ∧ W = w') := Lib.hid (fun W g c a1 a2 b1 => Word_v g c 64 D W (by decide) a1 a2 hD b1)
  have ENA := Lib.hid ena
  have ENB := Lib.hid enb
  subst eN1
  subst eN2
  clear hX hY hA hB hB0 hD ek eD ha hb h0 ena enb eN1v' eN2v'
  go_enter Try.func11, Try.ntmps11
  go_wp2_with (first
    | (go_at_call 19; with_reducible refine (L1.out _).mono ?_; rintro e w1 hL; unfold LPost at hL; obtain ⟨g1, c1, rfl, n1, m1, b1, k1, h1⟩ := hL; have P1 := Lib.hid b1; have B1 := Lib.hid h1; clear b1 k1 h1)
    | (go_at_call 19; with_reducible refine (L2.out _).mono ?_; rintro e w2 hL; unfold LPost at hL; obtain ⟨g2, c2, rfl, n2, m2, b2, k2, h2⟩ := hL; have P2 := Lib.hid b2; have P1' := Lib.hid (P1.out.below h2 P1.out.lt); have B2 := Lib.hid (B1.out.trans (h2.mono B1.out.size)); have x1 : w2.cell? ⟨g1, 63, none⟩ = some (.bool false) := (P1'.out.at_ (by decide)).trans (by rw [ENA.out]); have x2 : w2.cell? ⟨g2, 63, none⟩ = some (.bool false) := (P2.out.at_ (by decide)).trans (by rw [ENB.out]); clear b2 k2 h2)
    | (go_at_call 20; with_reducible refine (WY.out _ _ _ n2 m2 P2.out).mono ?_; rintro e w3 ⟨rfl, rfl⟩)
    | (go_at_call 24; with_reducible refine (ZZ.out _ _ _ n2 m2 P2.out).mono ?_; rintro e w3 ⟨rfl, rfl⟩))
  go_quiet (fail)
  have T1 := Lib.hid (fun k => P1'.out.drewN k)
  have T2 := Lib.hid (fun k => P2.out.drewN k)
  have TB := Lib.hid (fun k => drew_below B2.out k)
  clear x1 x2
  go_wp2_with (first
    | (go_at_call 26; with_reducible refine (CD.out _ _ _ _ _ n1 m1 n2 m2 (T1.out _) (T2.out _)).mono ?_; rintro e w6 hL; unfold DPost at hL; obtain ⟨gq, gr, cr, rfl, n6, m6, bq, br, kq, kr, h6⟩ := hL; have Q := Lib.hid bq; have S := Lib.hid br; have B6 := Lib.hid ((TB.out _).trans (h6.mono (TB.out _).size)); clear bq br kq kr h6)
    | (go_at_call 20; with_reducible refine (WR.out _ _ _ n6 m6 (by rw [ED.out]; exact S.out)).mono ?_; rintro e w8 ⟨rfl, rfl⟩))
  go_ret2
  exact ⟨rfl, B6.out⟩
set_option maxHeartbeats 4000000 in
set_option maxRecDepth 100000 in
theorem RB_3_64_ff_y (a b : Nat) (w : World) (ha : a < 18446744073709551616) (hb : b < 18446744073709551616) (h0 : Wd.cut 64 b ≠ 0) (ena : bt (Wd.cut 64 a) 63 = false) (enb : bt (Wd.cut 64 b) 63 = false) (hq : 2 ^ 63 ≤ ab (2 ^ 64) (Wd.cut 64 a) false / ab (2 ^ 64) (Wd.cut 64 b) false) :
    Calls Try.prog 11 #[.int .i64 3, .int .i64 64, .int .u64 a, .int .u64 b] w fun e w' => e = .returned (.tuple #[.int .u64 ((Wd.bz 3 64 a b : Nat) : Int), .int .i64 ((Wd.tr 3 64 a b : Nat) : Int)]) ∧ Below w.heap.size w w' := by
  have hX : Wd.cut 64 a < 2 ^ 64 := Wd.cut_lt (n := 64) (.inr rfl) ha
  have hY : Wd.cut 64 b < 2 ^ 64 := Wd.cut_lt (n := 64) (.inr rfl) hb
  have L1 : Hid (∀ W : World, Calls Try.prog 19 #[.int .i64 64, .int .u64 a] W (LPost W.heap.size 64 (bt (Wd.cut 64 a)) W)) := Lib.hid (fun W => (List_any 64 a W (by decide) (by decide) ha).mono fun e w' h => h.is (vl_cut 64 a (.inr rfl) ha))
  have L2 : Hid (∀ W : World, Calls Try.prog 19 #[.int .i64 64, .int .u64 b] W (LPost W.heap.size 64 (bt (Wd.cut 64 b)) W)) := Lib.hid (fun W => (List_any 64 b W (by decide) (by decide) hb).mono fun e w' h => h.is (vl_cut 64 b (.inr rfl) hb))
  obtain ⟨q1, q2, q3, hB0, hA, hB⟩ := rb_3 (n := 64) (.inr rfl) ha hb h0 ena enb
  obtain ⟨r1, r2⟩ := q1 rfl hq
  clear q1 q2 q3
  have hA : ab (2 ^ 64) (Wd.cut 64 a) false < 2 ^ 64 := hA
  have hB : ab (2 ^ 64) (Wd.cut 64 b) false < 2 ^ 64 := hB
  have hB0 : ab (2 ^ 64) (Wd.cut 64 b) false ≠ 0 := hB0
  rw [r1, r2]
  clear r1 r2
  generalize Wd.cut 64 a = X at hX L1 ena hA hq ⊢
  generalize Wd.cut 64 b = Y at hY L2 h0 enb hB hB0 hq ⊢
  obtain ⟨N1v, eN1⟩ : ∃ z, z = X := ⟨_, rfl⟩
  have eN1v' : ab (2 ^ 64) X false = N1v := by rw [eN1]; rfl
  obtain ⟨N2v, eN2⟩ : ∃ z, z = Y := ⟨_, rfl⟩
  have eN2v' : ab (2 ^ 64) Y false = N2v := by rw [eN2]; rfl
  simp only [eN1v', eN2v'] at hA hB hB0 hq ⊢
  have hk : Y % 64 < 64 := Nat.mod_lt _ (by decide)
  have kk : (Y : Int) % 64 = ((Y % 64 : Nat) : Int) := by omega
  have kt : (Y : Int).tmod 64 = ((Y % 64 : Nat) : Int) := by rw [Int.tmod_eq_emod_of_nonneg (by omega)]; omega
  obtain ⟨k, ek⟩ : ∃ k, k = Y % 64 := ⟨_, rfl⟩
  rw [← ek] at hk kk kt
  have hYb : (Y : Int) < 18446744073709551616 := by omega
  have WY : Hid (∀ (W : World) (g c : Nat), 64 ≤ c → c ≤ 9223372036854775807 → Bo W g 64 (bt Y) → Calls Try.prog 20 #[.slice (some ⟨g, 0, none⟩) 64 c] W fun e w' => e = .returned (.int .u64 (Y : Int)) ∧ W = w') := Lib.hid (fun W g c a1 a2 b1 => Word_v g c 64 Y W (by decide) a1 a2 hY b1)
  have ZZ : Hid (∀ (W : World) (g c : Nat), 64 ≤ c → c ≤ 9223372036854775807 → Bo W g 64 (bt Y) → Calls Try.prog 24 #[.slice (some ⟨g, 0, none⟩) 64 c] W fun e w' => e = .returned (.bool false) ∧ W = w') := Lib.hid (fun W g c a1 a2 b1 => by
    have := Zero_v g c 64 Y W (by decide) a1 a2 hY b1
    rw [decide_eq_false h0] at this; exact this)
  have CD : Hid (∀ (W : World) (g1 c1 g2 c2 : Nat), 64 ≤ c1 → c1 ≤ 9223372036854775807 → 64 ≤ c2 → c2 ≤ 9223372036854775807 → Bo W g1 64 (bt N1v) → Bo W g2 64 (bt N2v) → Calls Try.prog 26 #[.slice (some ⟨g1, 0, none⟩) 64 c1, .slice (some ⟨g2, 0, none⟩) 64 c2] W (DPost W.heap.size 64 N1v N2v W)) := Lib.hid (fun W g1 c1 g2 c2 a1 a2 a3 a4 p1 p2 => Divide_v g1 c1 g2 c2 64 N1v N2v W (by decide) (by decide) a1 a3 a2 a4 hA hB hB0 p1 p2)
  obtain ⟨D, eD⟩ : ∃ R, R = N1v / N2v := ⟨_, rfl⟩
  have hD : D < 2 ^ 64 := by rw [eD]; exact Nat.lt_of_le_of_lt (Nat.div_le_self _ _) hA
  have ED := Lib.hid eD
  try rw [← eD] at hq
  have ETOP : Hid (bt D 63 = true) := Lib.hid (by rw [top_bit (n := 63) hD]; simp; exact hq)
  have ENA := Lib.hid ena
  have ENB := Lib.hid enb
  subst eN1
  subst eN2
  clear hX hY hA hB hB0 hD ek eD ha hb h0 ena enb eN1v' eN2v' hq
  go_enter Try.func11, Try.ntmps11
  go_wp2_with (first
    | (go_at_call 19; with_reducible refine (L1.out _).mono ?_; rintro e w1 hL; unfold LPost at hL; obtain ⟨g1, c1, rfl, n1, m1, b1, k1, h1⟩ := hL; have P1 := Lib.hid b1; have B1 := Lib.hid h1; clear b1 k1 h1)
    | (go_at_call 19; with_reducible refine (L2.out _).mono ?_; rintro e w2 hL; unfold LPost at hL; obtain ⟨g2, c2, rfl, n2, m2, b2, k2, h2⟩ := hL; have P2 := Lib.hid b2; have P1' := Lib.hid (P1.out.below h2 P1.out.lt); have B2 := Lib.hid (B1.out.trans (h2.mono B1.out.size)); have x1 : w2.cell? ⟨g1, 63, none⟩ = some (.bool false) := (P1'.out.at_ (by decide)).trans (by rw [ENA.out]); have x2 : w2.cell? ⟨g2, 63, none⟩ = some (.bool false) := (P2.out.at_ (by decide)).trans (by rw [ENB.out]); clear b2 k2 h2)
    | (go_at_call 20; with_reducible refine (WY.out _ _ _ n2 m2 P2.out).mono ?_; rintro e w3 ⟨rfl, rfl⟩)
    | (go_at_call 24; with_reducible refine (ZZ.out _ _ _ n2 m2 P2.out).mono ?_; rintro e w3 ⟨rfl, rfl⟩))
  go_quiet (fail)
  have T1 := Lib.hid (fun k => P1'.out.drewN k)
  have T2 := Lib.hid (fun k => P2.out.drewN k)
  have TB := Lib.hid (fun k => drew_below B2.out k)
  clear x1 x2
  go_wp2_with (first
    | (go_at_call 26; with_reducible refine (CD.out _ _ _ _ _ n1 m1 n2 m2 (T1.out _) (T2.out _)).mono ?_; rintro e w6 hL; unfold DPost at hL; obtain ⟨gq, gr, cr, rfl, n6, m6, bq, br, kq, kr, h6⟩ := hL; have x3 : w6.cell? ⟨gq, 63, none⟩ = some (.bool true) := (bq.at_ (by decide)).trans (by rw [← ED.out, ETOP.out]); have Q := Lib.hid bq; have S := Lib.hid br; have B6 := Lib.hid ((TB.out _).trans (h6.mono (TB.out _).size)); clear bq br kq kr h6))
  go_ret2
  exact ⟨rfl, B6.out⟩
set_option maxHeartbeats 4000000 in
set_option maxRecDepth 100000 in
theorem RB_3_64_ff_n (a b : Nat) (w : World) (ha : a < 18446744073709551616) (hb : b < 18446744073709551616) (h0 : Wd.cut 64 b ≠ 0) (ena : bt (Wd.cut 64 a) 63 = false) (enb : bt (Wd.cut 64 b) 63 = false) (hq : ¬ 2 ^ 63 ≤ ab (2 ^ 64) (Wd.cut 64 a) false / ab (2 ^ 64) (Wd.cut 64 b) false) :
    Calls Try.prog 11 #[.int .i64 3, .int .i64 64, .int .u64 a, .int .u64 b] w fun e w' => e = .returned (.tuple #[.int .u64 ((Wd.bz 3 64 a b : Nat) : Int), .int .i64 ((Wd.tr 3 64 a b : Nat) : Int)]) ∧ Below w.heap.size w w' := by
  have hX : Wd.cut 64 a < 2 ^ 64 := Wd.cut_lt (n := 64) (.inr rfl) ha
  have hY : Wd.cut 64 b < 2 ^ 64 := Wd.cut_lt (n := 64) (.inr rfl) hb
  have L1 : Hid (∀ W : World, Calls Try.prog 19 #[.int .i64 64, .int .u64 a] W (LPost W.heap.size 64 (bt (Wd.cut 64 a)) W)) := Lib.hid (fun W => (List_any 64 a W (by decide) (by decide) ha).mono fun e w' h => h.is (vl_cut 64 a (.inr rfl) ha))
  have L2 : Hid (∀ W : World, Calls Try.prog 19 #[.int .i64 64, .int .u64 b] W (LPost W.heap.size 64 (bt (Wd.cut 64 b)) W)) := Lib.hid (fun W => (List_any 64 b W (by decide) (by decide) hb).mono fun e w' h => h.is (vl_cut 64 b (.inr rfl) hb))
  obtain ⟨q1, q2, q3, hB0, hA, hB⟩ := rb_3 (n := 64) (.inr rfl) ha hb h0 ena enb
  obtain ⟨r1, r2⟩ := q2 rfl hq
  clear q1 q2 q3
  have r1 : Wd.bz 3 64 a b = ab (2 ^ 64) (Wd.cut 64 a) false / ab (2 ^ 64) (Wd.cut 64 b) false := r1
  have hA : ab (2 ^ 64) (Wd.cut 64 a) false < 2 ^ 64 := hA
  have hB : ab (2 ^ 64) (Wd.cut 64 b) false < 2 ^ 64 := hB
  have hB0 : ab (2 ^ 64) (Wd.cut 64 b) false ≠ 0 := hB0
  rw [r1, r2]
  clear r1 r2
  generalize Wd.cut 64 a = X at hX L1 ena hA hq ⊢
  generalize Wd.cut 64 b = Y at hY L2 h0 enb hB hB0 hq ⊢
  obtain ⟨N1v, eN1⟩ : ∃ z, z = X := ⟨_, rfl⟩
  have eN1v' : ab (2 ^ 64) X false = N1v := by rw [eN1]; rfl
  obtain ⟨N2v, eN2⟩ : ∃ z, z = Y := ⟨_, rfl⟩
  have eN2v' : ab (2 ^ 64) Y false = N2v := by rw [eN2]; rfl
  simp only [eN1v', eN2v'] at hA hB hB0 hq ⊢
  have hk : Y % 64 < 64 := Nat.mod_lt _ (by decide)
  have kk : (Y : Int) % 64 = ((Y % 64 : Nat) : Int) := by omega
  have kt : (Y : Int).tmod 64 = ((Y % 64 : Nat) : Int) := by rw [Int.tmod_eq_emod_of_nonneg (by omega)]; omega
  obtain ⟨k, ek⟩ : ∃ k, k = Y % 64 := ⟨_, rfl⟩
  rw [← ek] at hk kk kt
  have hYb : (Y : Int) < 18446744073709551616 := by omega
  have WY : Hid (∀ (W : World) (g c : Nat), 64 ≤ c → c ≤ 9223372036854775807 → Bo W g 64 (bt Y) → Calls Try.prog 20 #[.slice (some ⟨g, 0, none⟩) 64 c] W fun e w' => e = .returned (.int .u64 (Y : Int)) ∧ W = w') := Lib.hid (fun W g c a1 a2 b1 => Word_v g c 64 Y W (by decide) a1 a2 hY b1)
  have ZZ : Hid (∀ (W : World) (g c : Nat), 64 ≤ c → c ≤ 9223372036854775807 → Bo W g 64 (bt Y) → Calls Try.prog 24 #[.slice (some ⟨g, 0, none⟩) 64 c] W fun e w' => e = .returned (.bool false) ∧ W = w') := Lib.hid (fun W g c a1 a2 b1 => by
    have := Zero_v g c 64 Y W (by decide) a1 a2 hY b1
    rw [decide_eq_false h0] at this; exact this)
  have CD : Hid (∀ (W : World) (g1 c1 g2 c2 : Nat), 64 ≤ c1 → c1 ≤ 9223372036854775807 → 64 ≤ c2 → c2 ≤ 9223372036854775807 → Bo W g1 64 (bt N1v) → Bo W g2 64 (bt N2v) → Calls Try.prog 26 #[.slice (some ⟨g1, 0, none⟩) 64 c1, .slice (some ⟨g2, 0, none⟩) 64 c2] W (DPost W.heap.size 64 N1v N2v W)) := Lib.hid (fun W g1 c1 g2 c2 a1 a2 a3 a4 p1 p2 => Divide_v g1 c1 g2 c2 64 N1v N2v W (by decide) (by decide) a1 a3 a2 a4 hA hB hB0 p1 p2)
  obtain ⟨D, eD⟩ : ∃ R, R = N1v / N2v := ⟨_, rfl⟩
  have hD : D < 2 ^ 64 := by rw [eD]; exact Nat.lt_of_le_of_lt (Nat.div_le_self _ _) hA
  have ED := Lib.hid eD
  rw [← eD] at hq ⊢
  have WR : Hid (∀ (W : World) (g c : Nat), 64 ≤ c → c ≤ 9223372036854775807 → Bo W g 64 (bt D) → Calls Try.prog 20 #[.slice (some ⟨g, 0, none⟩) 64 c] W fun e w' => e = .returned (.int .u64 (D : Int)) ∧ W = w') := Lib.hid (fun W g c a1 a2 b1 => Word_v g c 64 D W (by decide) a1 a2 hD b1)
  have ETOP : Hid (bt D 63 = false) := Lib.hid (by rw [top_bit (n := 63) hD]; simp; omega)
  have ENA := Lib.hid ena
  have ENB := Lib.hid enb
  subst eN1
  subst eN2
  clear hX hY hA hB hB0 hD ek eD ha hb h0 ena enb eN1v' eN2v' hq
  go_enter Try.func11, Try.ntmps11
  go_wp2_with (first
    | (go_at_call 19; with_reducible refine (L1.out _).mono ?_; rintro e w1 hL; unfold LPost at hL; obtain ⟨g1, c1, rfl, n1, m1, b1, k1, h1⟩ := hL; have P1 := Lib.hid b1; have B1 := Lib.hid h1; clear b1 k1 h1)
    | (go_at_call 19; with_reducible refine (L2.out _).mono ?_; rintro e w2 hL; unfold LPost at hL; obtain ⟨g2, c2, rfl, n2, m2, b2, k2, h2⟩ := hL; have P2 := Lib.hid b2; have P1' := Lib.hid (P1.out.below h2 P1.out.lt); have B2 := Lib.hid (B1.out.trans (h2.mono B1.out.size)); have x1 : w2.cell? ⟨g1, 63, none⟩ = some (.bool false) := (P1'.out.at_ (by decide)).trans (by rw [ENA.out]); have x2 : w2.cell? ⟨g2, 63, none⟩ = some (.bool false) := (P2.out.at_ (by decide)).trans (by rw [ENB.out]); clear b2 k2 h2)
    | (go_at_call 20; with_reducible refine (WY.out _ _ _ n2 m2 P2.out).mono ?_; rintro e w3 ⟨rfl, rfl⟩)
    | (go_at_call 24; with_reducible refine (ZZ.out _ _ _ n2 m2 P2.out).mono ?_; rintro e w3 ⟨rfl, rfl⟩))
  go_quiet (fail)
  have T1 := Lib.hid (fun k => P1'.out.drewN k)
  have T2 := Lib.hid (fun k => P2.out.drewN k)
  have TB := Lib.hid (fun k => drew_below B2.out k)
  clear x1 x2
  go_wp2_with (first
    | (go_at_call 26; with_reducible refine (CD.out _ _ _ _ _ n1 m1 n2 m2 (T1.out _) (T2.out _)).mono ?_; rintro e w6 hL; unfold DPost at hL; obtain ⟨gq, gr, cr, rfl, n6, m6, bq, br, kq, kr, h6⟩ := hL; have x3 : w6.cell? ⟨gq, 63, none⟩ = some (.bool false) := (bq.at_ (by decide)).trans (by rw [← ED.out, ETOP.out]); have Q := Lib.hid bq; have S := Lib.hid br; have B6 := Lib.hid ((TB.out _).trans (h6.mono (TB.out _).size)); clear bq br kq kr h6)
    | (go_at_call 20; with_reducible refine (WR.out _ _ _ (Nat.le_refl _) (by decide) (by rw [ED.out]; exact Q.out)).mono ?_; rintro e w8 ⟨rfl, rfl⟩))
  go_ret2
  exact ⟨rfl, B6.out⟩
set_option maxHeartbeats 4000000 in
set_option maxRecDepth 100000 in
theorem RB_5_64_ft (a b : Nat) (w : World) (ha : a < 18446744073709551616) (hb : b < 18446744073709551616) (h0 : Wd.cut 64 b ≠ 0) (ena : bt (Wd.cut 64 a) 63 = false) (enb : bt (Wd.cut 64 b) 63 = true) :
    Calls Try.prog 11 #[.int .i64 5, .int .i64 64, .int .u64 a, .int .u64 b] w fun e w' => e = .returned (.tuple #[.int .u64 ((Wd.bz 5 64 a b : Nat) : Int), .int .i64 ((Wd.tr 5 64 a b : Nat) : Int)]) ∧ Below w.heap.size w w' := by
  have hX : Wd.cut 64 a < 2 ^ 64 := Wd.cut_lt (n := 64) (.inr rfl) ha
  have hY : Wd.cut 64 b < 2 ^ 64 := Wd.cut_lt (n := 64) (.inr rfl) hb
  have L1 : Hid (∀ W : World, Calls Try.prog 19 #[.int .i64 64, .int .u64 a] W (LPost W.heap.size 64 (bt (Wd.cut 64 a)) W)) := Lib.hid (fun W => (List_any 64 a W (by decide) (by decide) ha).mono fun e w' h => h.is (vl_cut 64 a (.inr rfl) ha))
  have L2 : Hid (∀ W : World, Calls Try.prog 19 #[.int .i64 64, .int .u64 b] W (LPost W.heap.size 64 (bt (Wd.cut 64 b)) W)) := Lib.hid (fun W => (List_any 64 b W (by decide) (by decide) hb).mono fun e w' h => h.is (vl_cut 64 b (.inr rfl) hb))
  obtain ⟨r1, r2, hB0, hA, hB⟩ := rb_5 (n := 64) (.inr rfl) ha hb h0 ena enb
  have r1 : Wd.bz 5 64 a b = ab (2 ^ 64) (Wd.cut 64 a) false % ab (2 ^ 64) (Wd.cut 64 b) true := r1
  have hA : ab (2 ^ 64) (Wd.cut 64 a) false < 2 ^ 64 := hA
  have hB : ab (2 ^ 64) (Wd.cut 64 b) true < 2 ^ 64 := hB
  have hB0 : ab (2 ^ 64) (Wd.cut 64 b) true ≠ 0 := hB0
  rw [r1, r2]
  clear r1 r2
  generalize Wd.cut 64 a = X at hX L1 ena hA ⊢
  generalize Wd.cut 64 b = Y at hY L2 h0 enb hB hB0 ⊢
  obtain ⟨N1v, eN1⟩ : ∃ z, z = X := ⟨_, rfl⟩
  have eN1v' : ab (2 ^ 64) X false = N1v := by rw [eN1]; rfl
  obtain ⟨N2v, eN2⟩ : ∃ z, z = (2 ^ 64 - Y) % 2 ^ 64 := ⟨_, rfl⟩
  have eN2v' : ab (2 ^ 64) Y true = N2v := by rw [eN2]; rfl
  simp only [eN1v', eN2v'] at hA hB hB0 ⊢
  have N2 : Hid (∀ (W : World) (g c : Nat), 64 ≤ c → c ≤ 9223372036854775807 → Bo W g 64 (bt Y) → Calls Try.prog 25 #[.slice (some ⟨g, 0, none⟩) 64 c] W (LPost W.heap.size 64 (bt N2v) W)) := Lib.hid (fun W g c a1 a2 b1 => by rw [eN2]; exact Neg_v g c 64 Y W (by decide) (by decide) a1 a2 hY b1)
  have hk : Y % 64 < 64 := Nat.mod_lt _ (by decide)
  have kk : (Y : Int) % 64 = ((Y % 64 : Nat) : Int) := by omega
  have kt : (Y : Int).tmod 64 = ((Y % 64 : Nat) : Int) := by rw [Int.tmod_eq_emod_of_nonneg (by omega)]; omega
  obtain ⟨k, ek⟩ : ∃ k, k = Y % 64 := ⟨_, rfl⟩
  rw [← ek] at hk kk kt
  have hYb : (Y : Int) < 18446744073709551616 := by omega
  have WY : Hid (∀ (W : World) (g c : Nat), 64 ≤ c → c ≤ 9223372036854775807 → Bo W g 64 (bt Y) → Calls Try.prog 20 #[.slice (some ⟨g, 0, none⟩) 64 c] W fun e w' => e = .returned (.int .u64 (Y : Int)) ∧ W = w') := Lib.hid (fun W g c a1 a2 b1 => Word_v g c 64 Y W (by decide) a1 a2 hY b1)
  have ZZ : Hid (∀ (W : World) (g c : Nat), 64 ≤ c → c ≤ 9223372036854775807 → Bo W g 64 (bt Y) → Calls Try.prog 24 #[.slice (some ⟨g, 0, none⟩) 64 c] W fun e w' => e = .returned (.bool false) ∧ W = w') := Lib.hid (fun W g c a1 a2 b1 => by
    have := Zero_v g c 64 Y W (by decide) a1 a2 hY b1
    rw [decide_eq_false h0] at this; exact this)
  have CD : Hid (∀ (W : World) (g1 c1 g2 c2 : Nat), 64 ≤ c1 → c1 ≤ 9223372036854775807 → 64 ≤ c2 → c2 ≤ 9223372036854775807 → Bo W g1 64 (bt N1v) → Bo W g2 64 (bt N2v) → Calls Try.prog 26 #[.slice (some ⟨g1, 0, none⟩) 64 c1, .slice (some ⟨g2, 0, none⟩) 64 c2] W (DPost W.heap.size 64 N1v N2v W)) := Lib.hid (fun W g1 c1 g2 c2 a1 a2 a3 a4 p1 p2 => Divide_v g1 c1 g2 c2 64 N1v N2v W (by decide) (by decide) a1 a3 a2 a4 hA hB hB0 p1 p2)
  obtain ⟨D, eD⟩ : ∃ R, R = N1v % N2v := ⟨_, rfl⟩
  have hD : D < 2 ^ 64 := by rw [eD]; exact Nat.lt_of_le_of_lt (Nat.mod_le _ _) hA
  have ED := Lib.hid eD
  rw [← eD]
  have WR : Hid (∀ (W : World) (g c : Nat), 64 ≤ c → c ≤ 9223372036854775807 → Bo W g 64 (bt D) → Calls Try.prog 20 #[.slice (some ⟨g, 0, none⟩) 64 c] W fun e w' => e = .returned (.int .u64 (D : Int)) ∧ W = w') := Lib.hid (fun W g c a1 a2 b1 => Word_v g c 64 D W (by decide) a1 a2 hD b1)
  have ENA := Lib.hid ena
  have ENB := Lib.hid enb
  subst eN1
  clear hX hY hA hB hB0 hD ek eD ha hb h0 ena enb eN1v' eN2v' eN2
  go_enter Try.func11, Try.ntmps11
  go_wp2_with (first
    | (go_at_call 19; with_reducible refine (L1.out _).mono ?_; rintro e w1 hL; unfold LPost at hL; obtain ⟨g1, c1, rfl, n1, m1, b1, k1, h1⟩ := hL; have P1 := Lib.hid b1; have B1 := Lib.hid h1; clear b1 k1 h1)
    | (go_at_call 19; with_reducible refine (L2.out _).mono ?_; rintro e w2 hL; unfold LPost at hL; obtain ⟨g2, c2, rfl, n2, m2, b2, k2, h2⟩ := hL; have P2 := Lib.hid b2; have P1' := Lib.hid (P1.out.below h2 P1.out.lt); have B2 := Lib.hid (B1.out.trans (h2.mono B1.out.size)); have x1 : w2.cell? ⟨g1, 63, none⟩ = some (.bool false) := (P1'.out.at_ (by decide)).trans (by rw [ENA.out]); have x2 : w2.cell? ⟨g2, 63, none⟩ = some (.bool true) := (P2.out.at_ (by decide)).trans (by rw [ENB.out]); clear b2 k2 h2)
    | (go_at_call 20; with_reducible refine (WY.out _ _ _ n2 m2 P2.out).mono ?_; rintro e w3 ⟨rfl, rfl⟩)
    | (go_at_call 24; with_reducible refine (ZZ.out _ _ _ n2 m2 P2.out).mono ?_; rintro e w3 ⟨rfl, rfl⟩))
  go_quiet (fail)
  have T1 := Lib.hid (fun k => P1'.out.drewN k)
  have T2 := Lib.hid (fun k => P2.out.drewN k)
  have TB := Lib.hid (fun k => drew_below B2.out k)
  clear x1 x2
  go_wp2_with (first
    | (go_at_call 25; with_reducible refine (N2.out _ _ _ n2 m2 (T2.out _)).mono ?_; rintro e w5 hL; unfold LPost at hL; obtain ⟨g5, c5, rfl, n5, m5, b5, k5, h5⟩ := hL; have U2 := Lib.hid b5; have V1 := Lib.hid ((T1.out _).below h5 (T1.out _).lt); have B5 := Lib.hid ((TB.out _).trans (h5.mono (TB.out _).size)); clear b5 k5 h5)
    | (go_at_call 26; with_reducible refine (CD.out _ _ _ _ _ n1 m1 n5 m5 V1.out U2.out).mono ?_; rintro e w6 hL; unfold DPost at hL; obtain ⟨gq, gr, cr, rfl, n6, m6, bq, br, kq, kr, h6⟩ := hL; have Q := Lib.hid bq; have S := Lib.hid br; have B6 := Lib.hid (B5.out.trans (h6.mono B5.out.size)); clear bq br kq kr h6)
    | (go_at_call 20; with_reducible refine (WR.out _ _ _ n6 m6 (by rw [ED.out]; exact S.out)).mono ?_; rintro e w8 ⟨rfl, rfl⟩))
  go_ret2
  exact ⟨rfl, B6.out⟩
set_option maxHeartbeats 4000000 in
set_option maxRecDepth 100000 in
theorem RB_3_64_ft (a b : Nat) (w : World) (ha : a < 18446744073709551616) (hb : b < 18446744073709551616) (h0 : Wd.cut 64 b ≠ 0) (ena : bt (Wd.cut 64 a) 63 = false) (enb : bt (Wd.cut 64 b) 63 = true) :
    Calls Try.prog 11 #[.int .i64 3, .int .i64 64, .int .u64 a, .int .u64 b] w fun e w' => e = .returned (.tuple #[.int .u64 ((Wd.bz 3 64 a b : Nat) : Int), .int .i64 ((Wd.tr 3 64 a b : Nat) : Int)]) ∧ Below w.heap.size w w' := by
  have hX : Wd.cut 64 a < 2 ^ 64 := Wd.cut_lt (n := 64) (.inr rfl) ha
  have hY : Wd.cut 64 b < 2 ^ 64 := Wd.cut_lt (n := 64) (.inr rfl) hb
  have L1 : Hid (∀ W : World, Calls Try.prog 19 #[.int .i64 64, .int .u64 a] W (LPost W.heap.size 64 (bt (Wd.cut 64 a)) W)) := Lib.hid (fun W => (List_any 64 a W (by decide) (by decide) ha).mono fun e w' h => h.is (vl_cut 64 a (.inr rfl) ha))
  have L2 : Hid (∀ W : World, Calls Try.prog 19 #[.int .i64 64, .int .u64 b] W (LPost W.heap.size 64 (bt (Wd.cut 64 b)) W)) := Lib.hid (fun W => (List_any 64 b W (by decide) (by decide) hb).mono fun e w' h => h.is (vl_cut 64 b (.inr rfl) hb))
  obtain ⟨q1, q2, q3, hB0, hA, hB⟩ := rb_3 (n := 64) (.inr rfl) ha hb h0 ena enb
  obtain ⟨r1, r2⟩ := q3 (by decide)
  clear q1 q2 q3
  have r1 : Wd.bz 3 64 a b = (2 ^ 64 - ab (2 ^ 64) (Wd.cut 64 a) false / ab (2 ^ 64) (Wd.cut 64 b) true) % 2 ^ 64 := r1
  have hA : ab (2 ^ 64) (Wd.cut 64 a) false < 2 ^ 64 := hA
  have hB : ab (2 ^ 64) (Wd.cut 64 b) true < 2 ^ 64 := hB
  have hB0 : ab (2 ^ 64) (Wd.cut 64 b) true ≠ 0 := hB0
  rw [r1, r2]
  clear r1 r2
  generalize Wd.cut 64 a = X at hX L1 ena hA ⊢
  generalize Wd.cut 64 b = Y at hY L2 h0 enb hB hB0 ⊢
  obtain ⟨N1v, eN1⟩ : ∃ z, z = X := ⟨_, rfl⟩
  have eN1v' : ab (2 ^ 64) X false = N1v := by rw [eN1]; rfl
  obtain ⟨N2v, eN2⟩ : ∃ z, z = (2 ^ 64 - Y) % 2 ^ 64 := ⟨_, rfl⟩
  have eN2v' : ab (2 ^ 64) Y true = N2v := by rw [eN2]; rfl
  simp only [eN1v', eN2v'] at hA hB hB0 ⊢
  have N2 : Hid (∀ (W : World) (g c : Nat), 64 ≤ c → c ≤ 9223372036854775807 → Bo W g 64 (bt Y) → Calls Try.prog 25 #[.slice (some ⟨g, 0, none⟩) 64 c] W (LPost W.heap.size 64 (bt N2v) W)) := Lib.hid (fun W g c a1 a2 b1 => by rw [eN2]; exact Neg_v g c 64 Y W (by decide) (by decide) a1 a2 hY b1)
  have hk : Y % 64 < 64 := Nat.mod_lt _ (by decide)
  have kk : (Y : Int) % 64 = ((Y % 64 : Nat) : Int) := by omega
  have kt : (Y : Int).tmod 64 = ((Y % 64 : Nat) : Int) := by rw [Int.tmod_eq_emod_of_nonneg (by omega)]; omega
  obtain ⟨k, ek⟩ : ∃ k, k = Y % 64 := ⟨_, rfl⟩
  rw [← ek] at hk kk kt
  have hYb : (Y : Int) < 18446744073709551616 := by omega
  have WY : Hid (∀ (W : World) (g c : Nat), 64 ≤ c → c ≤ 9223372036854775807 → Bo W g 64 (bt Y) → Calls Try.prog 20 #[.slice (some ⟨g, 0, none⟩) 64 c] W fun e w' => e = .returned (.int .u64 (Y : Int)) ∧ W = w') := Lib.hid (fun W g c a1 a2 b1 => Word_v g c 64 Y W (by decide) a1 a2 hY b1)
  have ZZ : Hid (∀ (W : World) (g c : Nat), 64 ≤ c → c ≤ 9223372036854775807 → Bo W g 64 (bt Y) → Calls Try.prog 24 #[.slice (some ⟨g, 0, none⟩) 64 c] W fun e w' => e = .returned (.bool false) ∧ W = w') := Lib.hid (fun W g c a1 a2 b1 => by
    have := Zero_v g c 64 Y W (by decide) a1 a2 hY b1
    rw [decide_eq_false h0] at this; exact this)
  have CD : Hid (∀ (W : World) (g1 c1 g2 c2 : Nat), 64 ≤ c1 → c1 ≤ 9223372036854775807 → 64 ≤ c2 → c2 ≤ 9223372036854775807 → Bo W g1 64 (bt N1v) → Bo W g2 64 (bt N2v) → Calls Try.prog 26 #[.slice (some ⟨g1, 0, none⟩) 64 c1, .slice (some ⟨g2, 0, none⟩) 64 c2] W (DPost W.heap.size 64 N1v N2v W)) := Lib.hid (fun W g1 c1 g2 c2 a1 a2 a3 a4 p1 p2 => Divide_v g1 c1 g2 c2 64 N1v N2v W (by decide) (by decide) a1 a3 a2 a4 hA hB hB0 p1 p2)
  obtain ⟨D, eD⟩ : ∃ R, R = N1v / N2v := ⟨_, rfl⟩
  have hD : D < 2 ^ 64 := by rw [eD]; exact Nat.lt_of_le_of_lt (Nat.div_le_self _ _) hA
  have ED := Lib.hid eD
  rw [← eD]
  obtain ⟨N3v, eN3⟩ : ∃ R, R = (2 ^ 64 - D) % 2 ^ 64 := ⟨_, rfl⟩
  have hR : N3v < 2 ^ 64 := by rw [eN3]; exact Nat.mod_lt _ (Nat.two_pow_pos _)
  have N3 : Hid (∀ (W : World) (g c : Nat), 64 ≤ c → c ≤ 9223372036854775807 → Bo W g 64 (bt D) → Calls Try.prog 25 #[.slice (some ⟨g, 0, none⟩) 64 c] W (LPost W.heap.size 64 (bt N3v) W)) := Lib.hid (fun W g c a1 a2 b1 => by rw [eN3]; exact Neg_v g c 64 D W (by decide) (by decide) a1 a2 hD b1)
  have WR : Hid (∀ (W : World) (g c : Nat), 64 ≤ c → c ≤ 9223372036854775807 → Bo W g 64 (bt N3v) → Calls Try.prog 20 #[.slice (some ⟨g, 0, none⟩) 64 c] W fun e w' => e = .returned (.int .u64 (N3v : Int)) ∧ W = w') := Lib.hid (fun W g c a1 a2 b1 => Word_v g c 64 N3v W (by decide) a1 a2 hR b1)
  rw [← eN3]
  have ENA := Lib.hid ena
  have ENB := Lib.hid enb
  subst eN1
  clear hX hY hA hB hB0 hD ek eD ha hb h0 ena enb eN1v' eN2v' eN2 hR eN3
  go_enter Try.func11, Try.ntmps11
  go_wp2_with (first
    | (go_at_call 19; with_reducible refine (L1.out _).mono ?_; rintro e w1 hL; unfold LPost at hL; obtain ⟨g1, c1, rfl, n1, m1, b1, k1, h1⟩ := hL; have P1 := Lib.hid b1; have B1 := Lib.hid h1; clear b1 k1 h1)
    | (go_at_call 19; with_reducible refine (L2.out _).mono ?_; rintro e w2 hL; unfold LPost at hL; obtain ⟨g2, c2, rfl, n2, m2, b2, k2, h2⟩ := hL; have P2 := Lib.hid b2; have P1' := Lib.hid (P1.out.below h2 P1.out.lt); have B2 := Lib.hid (B1.out.trans (h2.mono B1.out.size)); have x1 : w2.cell? ⟨g1, 63, none⟩ = some (.bool false) := (P1'.out.at_ (by decide)).trans (by rw [ENA.out]); have x2 : w2.cell? ⟨g2, 63, none⟩ = some (.bool true) := (P2.out.at_ (by decide)).trans (by rw [ENB.out]); clear b2 k2 h2)
    | (go_at_call 20; with_reducible refine (WY.out _ _ _ n2 m2 P2.out).mono ?_; rintro e w3 ⟨rfl, rfl⟩)
    | (go_at_call 24; with_reducible refine (ZZ.out _ _ _ n2 m2 P2.out).mono ?_; rintro e w3 ⟨rfl, rfl⟩))
  go_quiet (fail)
  have T1 := Lib.hid (fun k => P1'.out.drewN k)
  have T2 := Lib.hid (fun k => P2.out.drewN k)
  have TB := Lib.hid (fun k => drew_below B2.out k)
  clear x1 x2
  go_wp2_with (first
    | (go_at_call 25; with_reducible refine (N2.out _ _ _ n2 m2 (T2.out _)).mono ?_; rintro e w5 hL; unfold LPost at hL; obtain ⟨g5, c5, rfl, n5, m5, b5, k5, h5⟩ := hL; have U2 := Lib.hid b5; have V1 := Lib.hid ((T1.out _).below h5 (T1.out _).lt); have B5 := Lib.hid ((TB.out _).trans (h5.mono (TB.out _).size)); clear b5 k5 h5)
    | (go_at_call 26; with_reducible refine (CD.out _ _ _ _ _ n1 m1 n5 m5 V1.out U2.out).mono ?_; rintro e w6 hL; unfold DPost at hL; obtain ⟨gq, gr, cr, rfl, n6, m6, bq, br, kq, kr, h6⟩ := hL; have Q := Lib.hid bq; have S := Lib.hid br; have B6 := Lib.hid (B5.out.trans (h6.mono B5.out.size)); clear bq br kq kr h6)
    | (go_at_call 25; with_reducible refine (N3.out _ _ _ (Nat.le_refl _) (by decide) (by rw [ED.out]; exact Q.out)).mono ?_; rintro e w7 hL; unfold LPost at hL; obtain ⟨g7, c7, rfl, n7, m7, b7, k7, h7⟩ := hL; have U7 := Lib.hid b7; have B7 := Lib.hid (B6.out.trans (h7.mono B6.out.size)); clear b7 k7 h7)
    | (go_at_call 20; with_reducible refine (WR.out _ _ _ n7 m7 U7.out).mono ?_; rintro e w8 ⟨rfl, rfl⟩))
  go_ret2
  exact ⟨rfl, B7.out⟩
set_option maxHeartbeats 4000000 in
set_option maxRecDepth 100000 in
theorem RB_5_64_tf (a b : Nat) (w : World) (ha : a < 18446744073709551616) (hb : b < 18446744073709551616) (h0 : Wd.cut 64 b ≠ 0) (ena : bt (Wd.cut 64 a) 63 = true) (enb : bt (Wd.cut 64 b) 63 = false) :
    Calls Try.prog 11 #[.int .i64 5, .int .i64 64, .int .u64 a, .int .u64 b] w fun e w' => e = .returned (.tuple #[.int .u64 ((Wd.bz 5 64 a b : Nat) : Int), .int .i64 ((Wd.tr 5 64 a b : Nat) : Int)]) ∧ Below w.heap.size w w' := by
  have hX : Wd.cut 64 a < 2 ^ 64 := Wd.cut_lt (n := 64) (.inr rfl) ha
  have hY : Wd.cut 64 b < 2 ^ 64 := Wd.cut_lt (n := 64) (.inr rfl) hb
  have L1 : Hid (∀ W : World, Calls Try.prog 19 #[.int .i64 64, .int .u64 a] W (LPost W.heap.size 64 (bt (Wd.cut 64 a)) W)) := Lib.hid (fun W => (List_any 64 a W (by decide) (by decide) ha).mono fun e w' h => h.is (vl_cut 64 a (.inr rfl) ha))
  have L2 : Hid (∀ W : World, Calls Try.prog 19 #[.int .i64 64, .int .u64 b] W (LPost W.heap.size 64 (bt (Wd.cut 64 b)) W)) := Lib.hid (fun W => (List_any 64 b W (by decide) (by decide) hb).mono fun e w' h => h.is (vl_cut 64 b (.inr rfl) hb))
  obtain ⟨r1, r2, hB0, hA, hB⟩ := rb_5 (n := 64) (.inr rfl) ha hb h0 ena enb
  have r1 : Wd.bz 5 64 a b = (2 ^ 64 - ab (2 ^ 64) (Wd.cut 64 a) true % ab (2 ^ 64) (Wd.cut 64 b) false) % 2 ^ 64 := r1
  have hA : ab (2 ^ 64) (Wd.cut 64 a) true < 2 ^ 64 := hA
  have hB : ab (2 ^ 64) (Wd.cut 64 b) false < 2 ^ 64 := hB
  have hB0 : ab (2 ^ 64) (Wd.cut 64 b) false ≠ 0 := hB0
  rw [r1, r2]
  clear r1 r2
  generalize Wd.cut 64 a = X at hX L1 ena hA ⊢
  generalize Wd.cut 64 b = Y at hY L2 h0 enb hB hB0 ⊢
  obtain ⟨N1v, eN1⟩ : ∃ z, z = (2 ^ 64 - X) % 2 ^ 64 := ⟨_, rfl⟩
  have eN1v' : ab (2 ^ 64) X true = N1v := by rw [eN1]; rfl
  obtain ⟨N2v, eN2⟩ : ∃ z, z = Y := ⟨_, rfl⟩
  have eN2v' : ab (2 ^ 64) Y false = N2v := by rw [eN2]; rfl
  simp only [eN1v', eN2v'] at hA hB hB0 ⊢
  have N1 : Hid (∀ (W : World) (g c : Nat), 64 ≤ c → c ≤ 9223372036854775807 → Bo W g 64 (bt X) → Calls Try.prog 25 #[.slice (some ⟨g, 0, none⟩) 64 c] W (LPost W.heap.size 64 (bt N1v) W)) := Lib.hid (fun W g c a1 a2 b1 => by rw [eN1]; exact Neg_v g c 64 X W (by decide) (by decide) a1 a2 hX b1)
  have hk : Y % 64 < 64 := Nat.mod_lt _ (by decide)
  have kk : (Y : Int) % 64 = ((Y % 64 : Nat) : Int) := by omega
  have kt : (Y : Int).tmod 64 = ((Y % 64 : Nat) : Int) := by rw [Int.tmod_eq_emod_of_nonneg (by omega)]; omega
  obtain ⟨k, ek⟩ : ∃ k, k = Y % 64 := ⟨_, rfl⟩
  rw [← ek] at hk kk kt
  have hYb : (Y : Int) < 18446744073709551616 := by omega
  have WY : Hid (∀ (W : World) (g c : Nat), 64 ≤ c → c ≤ 9223372036854775807 → Bo W g 64 (bt Y) → Calls Try.prog 20 #[.slice (some ⟨g, 0, none⟩) 64 c] W fun e w' => e = .returned (.int .u64 (Y : Int)) ∧ W = w') := Lib.hid (fun W g c a1 a2 b1 => Word_v g c 64 Y W (by decide) a1 a2 hY b1)
  have ZZ : Hid (∀ (W : World) (g c : Nat), 64 ≤ c → c ≤ 9223372036854775807 → Bo W g 64 (bt Y) → Calls Try.prog 24 #[.slice (some ⟨g, 0, none⟩) 64 c] W fun e w' => e = .returned (.bool false) ∧ W = w') := Lib.hid (fun W g c a1 a2 b1 => by
    have := Zero_v g c 64 Y W (by decide) a1 a2 hY b1
    rw [decide_eq_false h0] at this; exact this)
  have CD : Hid (∀ (W : World) (g1 c1 g2 c2 : Nat), 64 ≤ c1 → c1 ≤ 9223372036854775807 → 64 ≤ c2 → c2 ≤ 9223372036854775807 → Bo W g1 64 (bt N1v) → Bo W g2 64 (bt N2v) → Calls Try.prog 26 #[.slice (some ⟨g1, 0, none⟩) 64 c1, .slice (some ⟨g2, 0, none⟩) 64 c2] W (DPost W.heap.size 64 N1v N2v W)) := Lib.hid (fun W g1 c1 g2 c2 a1 a2 a3 a4 p1 p2 => Divide_v g1 c1 g2 c2 64 N1v N2v W (by decide) (by decide) a1 a3 a2 a4 hA hB hB0 p1 p2)
  obtain ⟨D, eD⟩ : ∃ R, R = N1v % N2v := ⟨_, rfl⟩
  have hD : D < 2 ^ 64 := by rw [eD]; exact Nat.lt_of_le_of_lt (Nat.mod_le _ _) hA
  have ED := Lib.hid eD
  rw [← eD]
  obtain ⟨N3v, eN3⟩ : ∃ R, R = (2 ^ 64 - D) % 2 ^ 64 := ⟨_, rfl⟩
  have hR : N3v < 2 ^ 64 := by rw [eN3]; exact Nat.mod_lt _ (Nat.two_pow_pos _)
  have N3 : Hid (∀ (W : World) (g c : Nat), 64 ≤ c → c ≤ 9223372036854775807 → Bo W g 64 (bt D) → Calls Try.prog 25 #[.slice (some ⟨g, 0, none⟩) 64 c] W (LPost W.heap.size 64 (bt N3v) W)) := Lib.hid (fun W g c a1 a2 b1 => by rw [eN3]; exact Neg_v g c 64 D W (by decide) (by decide) a1 a2 hD b1)
  have WR : Hid (∀ (W : World) (g c : Nat), 64 ≤ c → c ≤ 9223372036854775807 → Bo W g 64 (bt N3v) → Calls Try.prog 20 #[.slice (some ⟨g, 0, none⟩) 64 c] W fun e w' => e = .returned (.int .u64 (N3v : Int)) ∧ W = w') := Lib.hid (fun W g c a1 a2 b1 => Word_v g c 64 N3v W (by decide) a1 a2 hR b1)
  rw [← eN3]
  have ENA := Lib.hid ena
  have ENB := Lib.hid enb
  subst eN2
  clear hX hY hA hB hB0 hD ek eD ha hb h0 ena enb eN1v' eN2v' eN1 hR eN3
  go_enter Try.func11, Try.ntmps11
  go_wp2_with (first
    | (go_at_call 19; with_reducible refine (L1.out _).mono ?_; rintro e w1 hL; unfold LPost at hL; obtain ⟨g1, c1, rfl, n1, m1, b1, k1, h1⟩ := hL; have P1 := Lib.hid b1; have B1 := Lib.hid h1; clear b1 k1 h1)
    | (go_at_call 19; with_reducible refine (L2.out _).mono ?_; rintro e w2 hL; unfold LPost at hL; obtain ⟨g2, c2, rfl, n2, m2, b2, k2, h2⟩ := hL; have P2 := Lib.hid b2; have P1' := Lib.hid (P1.out.below h2 P1.out.lt); have B2 := Lib.hid (B1.out.trans (h2.mono B1.out.size)); have x1 : w2.cell? ⟨g1, 63, none⟩ = some (.bool true) := (P1'.out.at_ (by decide)).trans (by rw [ENA.out]); have x2 : w2.cell? ⟨g2, 63, none⟩ = some (.bool false) := (P2.out.at_ (by decide)).trans (by rw [ENB.out]); clear b2 k2 h2)
    | (go_at_call 20; with_reducible refine (WY.out _ _ _ n2 m2 P2.out).mono ?_; rintro e w3 ⟨rfl, rfl⟩)
    | (go_at_call 24; with_reducible refine (ZZ.out _ _ _ n2 m2 P2.out).mono ?_; rintro e w3 ⟨rfl, rfl⟩))
  go_quiet (fail)
  have T1 := Lib.hid (fun k => P1'.out.drewN k)
  have T2 := Lib.hid (fun k => P2.out.drewN k)
  have TB := Lib.hid (fun k => drew_below B2.out k)
  clear x1 x2
  go_wp2_with (first
    | (go_at_call 25; with_reducible refine (N1.out _ _ _ n1 m1 (T1.out _)).mono ?_; rintro e w4 hL; unfold LPost at hL; obtain ⟨g4, c4, rfl, n4, m4, b4, k4, h4⟩ := hL; have U1 := Lib.hid b4; have T2' := Lib.hid ((T2.out _).below h4 (T2.out _).lt); have B4 := Lib.hid ((TB.out _).trans (h4.mono (TB.out _).size)); clear b4 k4 h4)
    | (go_at_call 26; with_reducible refine (CD.out _ _ _ _ _ n4 m4 n2 m2 U1.out T2'.out).mono ?_; rintro e w6 hL; unfold DPost at hL; obtain ⟨gq, gr, cr, rfl, n6, m6, bq, br, kq, kr, h6⟩ := hL; have Q := Lib.hid bq; have S := Lib.hid br; have B6 := Lib.hid (B4.out.trans (h6.mono B4.out.size)); clear bq br kq kr h6)
    | (go_at_call 25; with_reducible refine (N3.out _ _ _ n6 m6 (by rw [ED.out]; exact S.out)).mono ?_; rintro e w7 hL; unfold LPost at hL; obtain ⟨g7, c7, rfl, n7, m7, b7, k7, h7⟩ := hL; have U7 := Lib.hid b7; have B7 := Lib.hid (B6.out.trans (h7.mono B6.out.size)); clear b7 k7 h7)
    | (go_at_call 20; with_reducible refine (WR.out _ _ _ n7 m7 U7.out).mono ?_; rintro e w8 ⟨rfl, rfl⟩))
  go_ret2
  exact ⟨rfl, B7.out⟩
set_option maxHeartbeats 4000000 in
set_option maxRecDepth 100000 in
theorem RB_3_64_tf (a b : Nat) (w : World) (ha : a < 18446744073709551616) (hb : b < 18446744073709551616) (h0 : Wd.cut 64 b ≠ 0) (ena : bt (Wd.cut 64 a) 63 = true) (enb : bt (Wd.cut 64 b) 63 = false) :
    Calls Try.prog 11 #[.int .i64 3, .int .i64 64, .int .u64 a, .int .u64 b] w fun e w' => e = .returned (.tuple #[.int .u64 ((Wd.bz 3 64 a b : Nat) : Int), .int .i64 ((Wd.tr 3 64 a b : Nat) : Int)]) ∧ Below w.heap.size w w' := by
  have hX : Wd.cut 64 a < 2 ^ 64 := Wd.cut_lt (n := 64) (.inr rfl) ha
  have hY : Wd.cut 64 b < 2 ^ 64 := Wd.cut_lt (n := 64) (.inr rfl) hb
  have L1 : Hid (∀ W : World, Calls Try.prog 19 #[.int .i64 64, .int .u64 a] W (LPost W.heap.size 64 (bt (Wd.cut 64 a)) W)) := Lib.hid (fun W => (List_any 64 a W (by decide) (by decide) ha).mono fun e w' h => h.is (vl_cut 64 a (.inr rfl) ha))
  have L2 : Hid (∀ W : World, Calls Try.prog 19 #[.int .i64 64, .int .u64 b] W (LPost W.heap.size 64 (bt (Wd.cut 64 b)) W)) := Lib.hid (fun W => (List_any 64 b W (by decide) (by decide) hb).mono fun e w' h => h.is (vl_cut 64 b (.inr rfl) hb))
  obtain ⟨q1, q2, q3, hB0, hA, hB⟩ := rb_3 (n := 64) (.inr rfl) ha hb h0 ena enb
  obtain ⟨r1, r2⟩ := q3 (by decide)
  clear q1 q2 q3
  have r1 : Wd.bz 3 64 a b = (2 ^ 64 - ab (2 ^ 64) (Wd.cut 64 a) true / ab (2 ^ 64) (Wd.cut 64 b) false) % 2 ^ 64 := r1
  have hA : ab (2 ^ 64) (Wd.cut 64 a) true < 2 ^ 64 := hA
  have hB : ab (2 ^ 64) (Wd.cut 64 b) false < 2 ^ 64 := hB
  have hB0 : ab (2 ^ 64) (Wd.cut 64 b) false ≠ 0 := hB0
  rw [r1, r2]
  clear r1 r2
  generalize Wd.cut 64 a = X at hX L1 ena hA ⊢
  generalize Wd.cut 64 b = Y at hY L2 h0 enb hB hB0 ⊢
  obtain ⟨N1v, eN1⟩ : ∃ z, z = (2 ^ 64 - X) % 2 ^ 64 := ⟨_, rfl⟩
  have eN1v' : ab (2 ^ 64) X true = N1v := by rw [eN1]; rfl
  obtain ⟨N2v, eN2⟩ : ∃ z, z = Y := ⟨_, rfl⟩
  have eN2v' : ab (2 ^ 64) Y false = N2v := by rw [eN2]; rfl
  simp only [eN1v', eN2v'] at hA hB hB0 ⊢
  have N1 : Hid (∀ (W : World) (g c : Nat), 64 ≤ c → c ≤ 9223372036854775807 → Bo W g 64 (bt X) → Calls Try.prog 25 #[.slice (some ⟨g, 0, none⟩) 64 c] W (LPost W.heap.size 64 (bt N1v) W)) := Lib.hid (fun W g c a1 a2 b1 => by rw [eN1]; exact Neg_v g c 64 X W (by decide) (by decide) a1 a2 hX b1)
  have hk : Y % 64 < 64 := Nat.mod_lt _ (by decide)
  have kk : (Y : Int) % 64 = ((Y % 64 : Nat) : Int) := by omega
  have kt : (Y : Int).tmod 64 = ((Y % 64 : Nat) : Int) := by rw [Int.tmod_eq_emod_of_nonneg (by omega)]; omega
  obtain ⟨k, ek⟩ : ∃ k, k = Y % 64 := ⟨_, rfl⟩
  rw [← ek] at hk kk kt
  have hYb : (Y : Int) < 18446744073709551616 := by omega
  have WY : Hid (∀ (W : World) (g c : Nat), 64 ≤ c → c ≤ 9223372036854775807 → Bo W g 64 (bt Y) → Calls Try.prog 20 #[.slice (some ⟨g, 0, none⟩) 64 c] W fun e w' => e = .returned (.int .u64 (Y : Int)) ∧ W = w') := Lib.hid (fun W g c a1 a2 b1 => Word_v g c 64 Y W (by decide) a1 a2 hY b1)
  have ZZ : Hid (∀ (W : World) (g c : Nat), 64 ≤ c → c ≤ 9223372036854775807 → Bo W g 64 (bt Y) → Calls Try.prog 24 #[.slice (some ⟨g, 0, none⟩) 64 c] W fun e w' => e = .returned (.bool false) ∧ W = w') := Lib.hid (fun W g c a1 a2 b1 => by
    have := Zero_v g c 64 Y W (by decide) a1 a2 hY b1
    rw [decide_eq_false h0] at this; exact this)
  have CD : Hid (∀ (W : World) (g1 c1 g2 c2 : Nat), 64 ≤ c1 → c1 ≤ 9223372036854775807 → 64 ≤ c2 → c2 ≤ 9223372036854775807 → Bo W g1 64 (bt N1v) → Bo W g2 64 (bt N2v) → Calls Try.prog 26 #[.slice (some ⟨g1, 0, none⟩) 64 c1, .slice (some ⟨g2, 0, none⟩) 64 c2] W (DPost W.heap.size 64 N1v N2v W)) := Lib.hid (fun W g1 c1 g2 c2 a1 a2 a3 a4 p1 p2 => Divide_v g1 c1 g2 c2 64 N1v N2v W (by decide) (by decide) a1 a3 a2 a4 hA hB hB0 p1 p2)
  obtain ⟨D, eD⟩ : ∃ R, R = N1v / N2v := ⟨_, rfl⟩
  have hD : D < 2 ^ 64 := by rw [eD]; exact Nat.lt_of_le_of_lt (Nat.div_le_self _ _) hA
  have ED := Lib.hid eD
  rw [← eD]
  obtain ⟨N3v, eN3⟩ : ∃ R, R = (2 ^ 64 - D) % 2 ^ 64 := ⟨_, rfl⟩
  have hR : N3v < 2 ^ 64 := by rw [eN3]; exact Nat.mod_lt _ (Nat.two_pow_pos _)
  have N3 : Hid (∀ (W : World) (g c : Nat), 64 ≤ c → c ≤ 9223372036854775807 → Bo W g 64 (bt D) → Calls Try.prog 25 #[.slice (some ⟨g, 0, none⟩) 64 c] W (LPost W.heap.size 64 (bt N3v) W)) := Lib.hid (fun W g c a1 a2 b1 => by rw [eN3]; exact Neg_v g c 64 D W (by decide) (by decide) a1 a2 hD b1)
  have WR : Hid (∀ (W : World) (g c : Nat), 64 ≤ c → c ≤ 9223372036854775807 → Bo W g 64 (bt N3v) → Calls Try.prog 20 #[.slice (some ⟨g, 0, none⟩) 64 c] W fun e w' => e = .returned (.int .u64 (N3v : Int)) ∧ W = w') := Lib.hid (fun W g c a1 a2 b1 => Word_v g c 64 N3v W (by decide) a1 a2 hR b1)
  rw [← eN3]
  have ENA := Lib.hid ena
  have ENB := Lib.hid enb
  subst eN2
  clear hX hY hA hB hB0 hD ek eD ha hb h0 ena enb eN1v' eN2v' eN1 hR eN3
  go_enter Try.func11, Try.ntmps11
  go_wp2_with (first
    | (go_at_call 19; with_reducible refine (L1.out _).mono ?_; rintro e w1 hL; unfold LPost at hL; obtain ⟨g1, c1, rfl, n1, m1, b1, k1, h1⟩ := hL; have P1 := Lib.hid b1; have B1 := Lib.hid h1; clear b1 k1 h1)
    | (go_at_call 19; with_reducible refine (L2.out _).mono ?_; rintro e w2 hL; unfold LPost at hL; obtain ⟨g2, c2, rfl, n2, m2, b2, k2, h2⟩ := hL; have P2 := Lib.hid b2; have P1' := Lib.hid (P1.out.below h2 P1.out.lt); have B2 := Lib.hid (B1.out.trans (h2.mono B1.out.size)); have x1 : w2.cell? ⟨g1, 63, none⟩ = some (.bool true) := (P1'.out.at_ (by decide)).trans (by rw [ENA.out]); have x2 : w2.cell? ⟨g2, 63, none⟩ = some (.bool false) := (P2.out.at_ (by decide)).trans (by rw [ENB.out]); clear b2 k2 h2)
    | (go_at_call 20; with_reducible refine (WY.out _ _ _ n2 m2 P2.out).mono ?_; rintro e w3 ⟨rfl, rfl⟩)
    | (go_at_call 24; with_reducible refine (ZZ.out _ _ _ n2 m2 P2.out).mono ?_; rintro e w3 ⟨rfl, rfl⟩))
  go_quiet (fail)
  have T1 := Lib.hid (fun k => P1'.out.drewN k)
  have T2 := Lib.hid (fun k => P2.out.drewN k)
  have TB := Lib.hid (fun k => drew_below B2.out k)
  clear x1 x2
  go_wp2_with (first
    | (go_at_call 25; with_reducible refine (N1.out _ _ _ n1 m1 (T1.out _)).mono ?_; rintro e w4 hL; unfold LPost at hL; obtain ⟨g4, c4, rfl, n4, m4, b4, k4, h4⟩ := hL; have U1 := Lib.hid b4; have T2' := Lib.hid ((T2.out _).below h4 (T2.out _).lt); have B4 := Lib.hid ((TB.out _).trans (h4.mono (TB.out _).size)); clear b4 k4 h4)
    | (go_at_call 26; with_reducible refine (CD.out _ _ _ _ _ n4 m4 n2 m2 U1.out T2'.out).mono ?_; rintro e w6 hL; unfold DPost at hL; obtain ⟨gq, gr, cr, rfl, n6, m6, bq, br, kq, kr, h6⟩ := hL; have Q := Lib.hid bq; have S := Lib.hid br; have B6 := Lib.hid (B4.out.trans (h6.mono B4.out.size)); clear bq br kq kr h6)
    | (go_at_call 25; with_reducible refine (N3.out _ _ _ (Nat.le_refl _) (by decide) (by rw [ED.out]; exact Q.out)).mono ?_; rintro e w7 hL; unfold LPost at hL; obtain ⟨g7, c7, rfl, n7, m7, b7, k7, h7⟩ := hL; have U7 := Lib.hid b7; have B7 := Lib.hid (B6.out.trans (h7.mono B6.out.size)); clear b7 k7 h7)
    | (go_at_call 20; with_reducible refine (WR.out _ _ _ n7 m7 U7.out).mono ?_; rintro e w8 ⟨rfl, rfl⟩))
  go_ret2
  exact ⟨rfl, B7.out⟩
set_option maxHeartbeats 4000000 in
set_option maxRecDepth 100000 in
theorem RB_5_64_tt (a b : Nat) (w : World) (ha : a < 18446744073709551616) (hb : b < 18446744073709551616) (h0 : Wd.cut 64 b ≠ 0) (ena : bt (Wd.cut 64 a) 63 = true) (enb : bt (Wd.cut 64 b) 63 = true) :
    Calls Try.prog 11 #[.int .i64 5, .int .i64 64, .int .u64 a, .int .u64 b] w fun e w' => e = .returned (.tuple #[.int .u64 ((Wd.bz 5 64 a b : Nat) : Int), .int .i64 ((Wd.tr 5 64 a b : Nat) : Int)]) ∧ Below w.heap.size w w' := by
  have hX : Wd.cut 64 a < 2 ^ 64 := Wd.cut_lt (n := 64) (.inr rfl) ha
  have hY : Wd.cut 64 b < 2 ^ 64 := Wd.cut_lt (n := 64) (.inr rfl) hb
  have L1 : Hid (∀ W : World, Calls Try.prog 19 #[.int .i64 64, .int .u64 a] W (LPost W.heap.size 64 (bt (Wd.cut 64 a)) W)) := Lib.hid (fun W => (List_any 64 a W (by decide) (by decide) ha).mono fun e w' h => h.is (vl_cut 64 a (.inr rfl) ha))
  have L2 : Hid (∀ W : World, Calls Try.prog 19 #[.int .i64 64, .int .u64 b] W (LPost W.heap.size 64 (bt (Wd.cut 64 b)) W)) := Lib.hid (fun W => (List_any 64 b W (by decide) (by decide) hb).mono fun e w' h => h.is (vl_cut 64 b (.inr rfl) hb))
  obtain ⟨r1, r2, hB0, hA, hB⟩ := rb_5 (n := 64) (.inr rfl) ha hb h0 ena enb
  have r1 : Wd.bz 5 64 a b = (2 ^ 64 - ab (2 ^ 64) (Wd.cut 64 a) true % ab (2 ^ 64) (Wd.cut 64 b) true) % 2 ^ 64 := r1
  have hA : ab (2 ^ 64) (Wd.cut 64 a) true < 2 ^ 64 := hA
  have hB : ab (2 ^ 64) (Wd.cut 64 b) true < 2 ^ 64 := hB
  have hB0 : ab (2 ^ 64) (Wd.cut 64 b) true ≠ 0 := hB0
  rw [r1, r2]
  clear r1 r2
  generalize Wd.cut 64 a = X at hX L1 ena hA ⊢
  generalize Wd.cut 64 b = Y at hY L2 h0 enb hB hB0 ⊢
  obtain ⟨N1v, eN1⟩ : ∃ z, z = (2 ^ 64 - X) % 2 ^ 64 := ⟨_, rfl⟩
  have eN1v' : ab (2 ^ 64) X true = N1v := by rw [eN1]; rfl
  obtain ⟨N2v, eN2⟩ : ∃ z, z = (2 ^ 64 - Y) % 2 ^ 64 := ⟨_, rfl⟩
  have eN2v' : ab (2 ^ 64) Y true = N2v := by rw [eN2]; rfl
  simp only [eN1v', eN2v'] at hA hB hB0 ⊢
  have N1 : Hid (∀ (W : World) (g c : Nat), 64 ≤ c → c ≤ 9223372036854775807 → Bo W g 64 (bt X) → Calls Try.prog 25 #[.slice (some ⟨g, 0, none⟩) 64 c] W (LPost W.heap.size 64 (bt N1v) W)) := Lib.hid (fun W g c a1 a2 b1 => by rw [eN1]; exact Neg_v g c 64 X W (by decide) (by decide) a1 a2 hX b1)
  have N2 : Hid (∀ (W : World) (g c : Nat), 64 ≤ c → c ≤ 9223372036854775807 → Bo W g 64 (bt Y) → Calls Try.prog 25 #[.slice (some ⟨g, 0, none⟩) 64 c] W (LPost W.heap.size 64 (bt N2v) W)) := Lib.hid (fun W g c a1 a2 b1 => by rw [eN2]; exact Neg_v g c 64 Y W (by decide) (by decide) a1 a2 hY b1)
  have hk : Y % 64 < 64 := Nat.mod_lt _ (by decide)
  have kk : (Y : Int) % 64 = ((Y % 64 : Nat) : Int) := by omega
  have kt : (Y : Int).tmod 64 = ((Y % 64 : Nat) : Int) := by rw [Int.tmod_eq_emod_of_nonneg (by omega)]; omega
  obtain ⟨k, ek⟩ : ∃ k, k = Y % 64 := ⟨_, rfl⟩
  rw [← ek] at hk kk kt
  have hYb : (Y : Int) < 18446744073709551616 := by omega
  have WY : Hid (∀ (W : World) (g c : Nat), 64 ≤ c → c ≤ 9223372036854775807 → Bo W g 64 (bt Y) → Calls Try.prog 20 #[.slice (some ⟨g, 0, none⟩) 64 c] W fun e w' => e = .returned (.int .u64 (Y : Int)) ∧ W = w') := Lib.hid (fun W g c a1 a2 b1 => Word_v g c 64 Y W (by decide) a1 a2 hY b1)
  have ZZ : Hid (∀ (W : World) (g c : Nat), 64 ≤ c → c ≤ 9223372036854775807 → Bo W g 64 (bt Y) → Calls Try.prog 24 #[.slice (some ⟨g, 0, none⟩) 64 c] W fun e w' => e = .returned (.bool false) ∧ W = w') := Lib.hid (fun W g c a1 a2 b1 => by
    have := Zero_v g c 64 Y W (by decide) a1 a2 hY b1
    rw [decide_eq_false h0] at this; exact this)
  have CD : Hid (∀ (W : World) (g1 c1 g2 c2 : Nat), 64 ≤ c1 → c1 ≤ 9223372036854775807 → 64 ≤ c2 → c2 ≤ 9223372036854775807 → Bo W g1 64 (bt N1v) → Bo W g2 64 (bt N2v) → Calls Try.prog 26 #[.slice (some ⟨g1, 0, none⟩) 64 c1, .slice (some ⟨g2, 0, none⟩) 64 c2] W (DPost W.heap.size 64 N1v N2v W)) := Lib.hid (fun W g1 c1 g2 c2 a1 a2 a3 a4 p1 p2 => Divide_v g1 c1 g2 c2 64 N1v N2v W (by decide) (by decide) a1 a3 a2 a4 hA hB hB0 p1 p2)
  obtain ⟨D, eD⟩ : ∃ R, R = N1v % N2v := ⟨_, rfl⟩
  have hD : D < 2 ^ 64 := by rw [eD]; exact Nat.lt_of_le_of_lt (Nat.mod_le _ _) hA
  have ED := Lib.hid eD
  rw [← eD]
  obtain ⟨N3v, eN3⟩ : ∃ R, R = (2 ^ 64 - D) % 2 ^ 64 := ⟨_, rfl⟩
  have hR : N3v < 2 ^ 64 := by rw [eN3]; exact Nat.mod_lt _ (Nat.two_pow_pos _)
  have N3 : Hid (∀ (W : World) (g c : Nat), 64 ≤ c → c ≤ 9223372036854775807 → Bo W g 64 (bt D) → Calls Try.prog 25 #[.slice (some ⟨g, 0, none⟩) 64 c] W (LPost W.heap.size 64 (bt N3v) W)) := Lib.hid (fun W g c a1 a2 b1 => by rw [eN3]; exact Neg_v g c 64 D W (by decide) (by decide) a1 a2 hD b1)
  have WR : Hid (∀ (W : World) (g c : Nat), 64 ≤ c → c ≤ 9223372036854775807 → Bo W g 64 (bt N3v) → Calls Try.prog 20 #[.slice (some ⟨g, 0, none⟩) 64 c] W fun e w' => e = .returned (.int .u64 (N3v : Int)) ∧ W = w') := Lib.hid (fun W g c a1 a2 b1 => Word_v g c 64 N3v W (by decide) a1 a2 hR b1)
  rw [← eN3]
  have ENA := Lib.hid ena
  have ENB := Lib.hid enb
  clear hX hY hA hB hB0 hD ek eD ha hb h0 ena enb eN1v' eN2v' eN1 eN2 hR eN3
  go_enter Try.func11, Try.ntmps11
  go_wp2_with (first
    | (go_at_call 19; with_reducible refine (L1.out _).mono ?_; rintro e w1 hL; unfold LPost at hL; obtain ⟨g1, c1, rfl, n1, m1, b1, k1, h1⟩ := hL; have P1 := Lib.hid b1; have B1 := Lib.hid h1; clear b1 k1 h1)
    | (go_at_call 19; with_reducible refine (L2.out _).mono ?_; rintro e w2 hL; unfold LPost at hL; obtain ⟨g2, c2, rfl, n2, m2, b2, k2, h2⟩ := hL; have P2 := Lib.hid b2; have P1' := Lib.hid (P1.out.below h2 P1.out.lt); have B2 := Lib.hid (B1.out.trans (h2.mono B1.out.size)); have x1 : w2.cell? ⟨g1, 63, none⟩ = some (.bool true) := (P1'.out.at_ (by decide)).trans (by rw [ENA.out]); have x2 : w2.cell? ⟨g2, 63, none⟩ = some (.bool true) := (P2.out.at_ (by decide)).trans (by rw [ENB.out]); clear b2 k2 h2)
    | (go_at_call 20; with_reducible refine (WY.out _ _ _ n2 m2 P2.out).mono ?_; rintro e w3 ⟨rfl, rfl⟩)
    | (go_at_call 24; with_reducible refine (ZZ.out _ _ _ n2 m2 P2.out).mono ?_; rintro e w3 ⟨rfl, rfl⟩))
  go_quiet (fail)
  have T1 := Lib.hid (fun k => P1'.out.drewN k)
  have T2 := Lib.hid (fun k => P2.out.drewN k)
  have TB := Lib.hid (fun k => drew_below B2.out k)
  clear x1 x2
  go_wp2_with (first
    | (go_at_call 25; with_reducible refine (N1.out _ _ _ n1 m1 (T1.out _)).mono ?_; rintro e w4 hL; unfold LPost at hL; obtain ⟨g4, c4, rfl, n4, m4, b4, k4, h4⟩ := hL; have U1 := Lib.hid b4; have T2' := Lib.hid ((T2.out _).below h4 (T2.out _).lt); have B4 := Lib.hid ((TB.out _).trans (h4.mono (TB.out _).size)); clear b4 k4 h4)
    | (go_at_call 25; with_reducible refine (N2.out _ _ _ n2 m2 T2'.out).mono ?_; rintro e w5 hL; unfold LPost at hL; obtain ⟨g5, c5, rfl, n5, m5, b5, k5, h5⟩ := hL; have U2 := Lib.hid b5; have V1 := Lib.hid (U1.out.below h5 U1.out.lt); have B5 := Lib.hid (B4.out.trans (h5.mono B4.out.size)); clear b5 k5 h5)
    | (go_at_call 26; with_reducible refine (CD.out _ _ _ _ _ n4 m4 n5 m5 V1.out U2.out).mono ?_; rintro e w6 hL; unfold DPost at hL; obtain ⟨gq, gr, cr, rfl, n6, m6, bq, br, kq, kr, h6⟩ := hL; have Q := Lib.hid bq; have S := Lib.hid br; have B6 := Lib.hid (B5.out.trans (h6.mono B5.out.size)); clear bq br kq kr h6)
    | (go_at_call 25; with_reducible refine (N3.out _ _ _ n6 m6 (by rw [ED.out]; exact S.out)).mono ?_; rintro e w7 hL; unfold LPost at hL; obtain ⟨g7, c7, rfl, n7, m7, b7, k7, h7⟩ := hL; have U7 := Lib.hid b7; have B7 := Lib.hid (B6.out.trans (h7.mono B6.out.size)); clear b7 k7 h7)
    | (go_at_call 20; with_reducible refine (WR.out _ _ _ n7 m7 U7.out).mono ?_; rintro e w8 ⟨rfl, rfl⟩))
  go_ret2
  exact ⟨rfl, B7.out⟩
set_option maxHeartbeats 4000000 in
set_option maxRecDepth 100000 in
theorem RB_3_64_tt_y (a b : Nat) (w : World) (ha : a < 18446744073709551616) (hb : b < 18446744073709551616) (h0 : Wd.cut 64 b ≠ 0) (ena : bt (Wd.cut 64 a) 63 = true) (enb : bt (Wd.cut 64 b) 63 = true) (hq : 2 ^ 63 ≤ ab (2 ^ 64) (Wd.cut 64 a) true / ab (2 ^ 64) (Wd.cut 64 b) true) :
    Calls Try.prog 11 #[.int .i64 3, .int .i64 64, .int .u64 a, .int .u64 b] w fun e w' => e = .returned (.tuple #[.int .u64 ((Wd.bz 3 64 a b : Nat) : Int), .int .i64 ((Wd.tr 3 64 a b : Nat) : Int)]) ∧ Below w.heap.size w w' := by
  have hX : Wd.cut 64 a < 2 ^ 64 := Wd.cut_lt (n := 64) (.inr rfl) ha
  have hY : Wd.cut 64 b < 2 ^ 64 := Wd.cut_lt (n := 64) (.inr rfl) hb
  have L1 : Hid (∀ W : World, Calls Try.prog 19 #[.int .i64 64, .int .u64 a] W (LPost W.heap.size 64 (bt (Wd.cut 64 a)) W)) := Lib.hid (fun W => (List_any 64 a W (by decide) (by decide) ha).mono fun e w' h => h.is (vl_cut 64 a (.inr rfl) ha))
  have L2 : Hid (∀ W : World, Calls Try.prog 19 #[.int .i64 64, .int .u64 b] W (LPost W.heap.size 64 (bt (Wd.cut 64 b)) W)) := Lib.hid (fun W => (List_any 64 b W (by decide) (by decide) hb).mono fun e w' h => h.is (vl_cut 64 b (.inr rfl) hb))
  obtain ⟨q1, q2, q3, hB0, hA, hB⟩ := rb_3 (n := 64) (.inr rfl) ha hb h0 ena enb
  obtain ⟨r1, r2⟩ := q1 rfl hq
  clear q1 q2 q3
  have hA : ab (2 ^ 64) (Wd.cut 64 a) true < 2 ^ 64 := hA
  have hB : ab (2 ^ 64) (Wd.cut 64 b) true < 2 ^ 64 := hB
  have hB0 : ab (2 ^ 64) (Wd.cut 64 b) true ≠ 0 := hB0
  rw [r1, r2]
  clear r1 r2
  generalize Wd.cut 64 a = X at hX L1 ena hA hq ⊢
  generalize Wd.cut 64 b = Y at hY L2 h0 enb hB hB0 hq ⊢
  obtain ⟨N1v, eN1⟩ : ∃ z, z = (2 ^ 64 - X) % 2 ^ 64 := ⟨_, rfl⟩
  have eN1v' : ab (2 ^ 64) X true = N1v := by rw [eN1]; rfl
  obtain ⟨N2v, eN2⟩ : ∃ z, z = (2 ^ 64 - Y) % 2 ^ 64 := ⟨_, rfl⟩
  have eN2v' : ab (2 ^ 64) Y true = N2v := by rw [eN2]; rfl
  simp only [eN1v', eN2v'] at hA hB hB0 hq ⊢
  have N1 : Hid (∀ (W : World) (g c : Nat), 64 ≤ c → c ≤ 9223372036854775807 → Bo W g 64 (bt X) → Calls Try.prog 25 #[.slice (some ⟨g, 0, none⟩) 64 c] W (LPost W.heap.size 64 (bt N1v) W)) := Lib.hid (fun W g c a1 a2 b1 => by rw [eN1]; exact Neg_v g c 64 X W (by decide) (by decide) a1 a2 hX b1)
  have N2 : Hid (∀ (W : World) (g c : Nat), 64 ≤ c → c ≤ 9223372036854775807 → Bo W g 64 (bt Y) → Calls Try.prog 25 #[.slice (some ⟨g, 0, none⟩) 64 c] W (LPost W.heap.size 64 (bt N2v) W)) := Lib.hid (fun W g c a1 a2 b1 => by rw [eN2]; exact Neg_v g c 64 Y W (by decide) (by decide) a1 a2 hY b1)
  have hk : Y % 64 < 64 := Nat.mod_lt _ (by decide)
  have kk : (Y : Int) % 64 = ((Y % 64 : Nat) : Int) := by omega
  have kt : (Y : Int).tmod 64 = ((Y % 64 : Nat) : Int) := by rw [Int.tmod_eq_emod_of_nonneg (by omega)]; omega
  obtain ⟨k, ek⟩ : ∃ k, k = Y % 64 := ⟨_, rfl⟩
  rw [← ek] at hk kk kt
  have hYb : (Y : Int) < 18446744073709551616 := by omega
  have WY : Hid (∀ (W : World) (g c : Nat), 64 ≤ c → c ≤ 9223372036854775807 → Bo W g 64 (bt Y) → Calls Try.prog 20 #[.slice (some ⟨g, 0, none⟩) 64 c] W fun e w' => e = .returned (.int .u64 (Y : Int)) ∧ W = w') := Lib.hid (fun W g c a1 a2 b1 => Word_v g c 64 Y W (by decide) a1 a2 hY b1)
  have ZZ : Hid (∀ (W : World) (g c : Nat), 64 ≤ c → c ≤ 9223372036854775807 → Bo W g 64 (bt Y) → Calls Try.prog 24 #[.slice (some ⟨g, 0, none⟩) 64 c] W fun e w' => e = .returned (.bool false) ∧ W = w') := Lib.hid (fun W g c a1 a2 b1 => by
    have := Zero_v g c 64 Y W (by decide) a1 a2 hY b1
    rw [decide_eq_false h0] at this; exact this)
  have CD : Hid (∀ (W : World) (g1 c1 g2 c2 : Nat), 64 ≤ c1 → c1 ≤ 9223372036854775807 → 64 ≤ c2 → c2 ≤ 9223372036854775807 → Bo W g1 64 (bt N1v) → Bo W g2 64 (bt N2v) → Calls Try.prog 26 #[.slice (some ⟨g1, 0, none⟩) 64 c1, .slice (some ⟨g2, 0, none⟩) 64 c2] W (DPost W.heap.size 64 N1v N2v W)) := Lib.hid (fun W g1 c1 g2 c2 a1 a2 a3 a4 p1 p2 => Divide_v g1 c1 g2 c2 64 N1v N2v W (by decide) (by decide) a1 a3 a2 a4 hA hB hB0 p1 p2)
  obtain ⟨D, eD⟩ : ∃ R, R = N1v / N2v := ⟨_, rfl⟩
  have hD : D < 2 ^ 64 := by rw [eD]; exact Nat.lt_of_le_of_lt (Nat.div_le_self _ _) hA
  have ED := Lib.hid eD
  try rw [← eD] at hq
  have ETOP : Hid (bt D 63 = true) := Lib.hid (by rw [top_bit (n := 63) hD]; simp; exact hq)
  have ENA := Lib.hid ena
  have ENB := Lib.hid enb
  clear hX hY hA hB hB0 hD ek eD ha hb h0 ena enb eN1v' eN2v' eN1 eN2 hq
  go_enter Try.func11, Try.ntmps11
  go_wp2_with (first
    | (go_at_call 19; with_reducible refine (L1.out _).mono ?_; rintro e w1 hL; unfold LPost at hL; obtain ⟨g1, c1, rfl, n1, m1, b1, k1, h1⟩ := hL; have P1 := Lib.hid b1; have B1 := Lib.hid h1; clear b1 k1 h1)
    | (go_at_call 19; with_reducible refine (L2.out _).mono ?_; rintro e w2 hL; unfold LPost at hL; obtain ⟨g2, c2, rfl, n2, m2, b2, k2, h2⟩ := hL; have P2 := Lib.hid b2; have P1' := Lib.hid (P1.out.below h2 P1.out.lt); have B2 := Lib.hid (B1.out.trans (h2.mono B1.out.size)); have x1 : w2.cell? ⟨g1, 63, none⟩ = some (.bool true) := (P1'.out.at_ (by decide)).trans (by rw [ENA.out]); have x2 : w2.cell? ⟨g2, 63, none⟩ = some (.bool true) := (P2.out.at_ (by decide)).trans (by rw [ENB.out]); clear b2 k2 h2)
    | (go_at_call 20; with_reducible refine (WY.out _ _ _ n2 m2 P2.out).mono ?_; rintro e w3 ⟨rfl, rfl⟩)
    | (go_at_call 24; with_reducible refine (ZZ.out _ _ _ n2 m2 P2.out).mono ?_; rintro e w3 ⟨rfl, rfl⟩))
  go_quiet (fail)
  have T1 := Lib.hid (fun k => P1'.out.drewN k)
  have T2 := Lib.hid (fun k => P2.out.drewN k)
  have TB := Lib.hid (fun k => drew_below B2.out k)
  clear x1 x2
  go_wp2_with (first
    | (go_at_call 25; with_reducible refine (N1.out _ _ _ n1 m1 (T1.out _)).mono ?_; rintro e w4 hL; unfold LPost at hL; obtain ⟨g4, c4, rfl, n4, m4, b4, k4, h4⟩ := hL; have U1 := Lib.hid b4; have T2' := Lib.hid ((T2.out _).below h4 (T2.out _).lt); have B4 := Lib.hid ((TB.out _).trans (h4.mono (TB.out _).size)); clear b4 k4 h4)
    | (go_at_call 25; with_reducible refine (N2.out _ _ _ n2 m2 T2'.out).mono ?_; rintro e w5 hL; unfold LPost at hL; obtain ⟨g5, c5, rfl, n5, m5, b5, k5, h5⟩ := hL; have U2 := Lib.hid b5; have V1 := Lib.hid (U1.out.below h5 U1.out.lt); have B5 := Lib.hid (B4.out.trans (h5.mono B4.out.size)); clear b5 k5 h5)
    | (go_at_call 26; with_reducible refine (CD.out _ _ _ _ _ n4 m4 n5 m5 V1.out U2.out).mono ?_; rintro e w6 hL; unfold DPost at hL; obtain ⟨gq, gr, cr, rfl, n6, m6, bq, br, kq, kr, h6⟩ := hL; have x3 : w6.cell? ⟨gq, 63, none⟩ = some (.bool true) := (bq.at_ (by decide)).trans (by rw [← ED.out, ETOP.out]); have Q := Lib.hid bq; have S := Lib.hid br; have B6 := Lib.hid (B5.out.trans (h6.mono B5.out.size)); clear bq br kq kr h6))
  go_ret2
  exact ⟨rfl, B6.out⟩
set_option maxHeartbeats 4000000 in
set_option maxRecDepth 100000 in
theorem RB_3_64_tt_n (a b : Nat) (w : World) (ha : a < 18446744073709551616) (hb : b < 18446744073709551616) (h0 : Wd.cut 64 b ≠ 0) (ena : bt (Wd.cut 64 a) 63 = true) (enb : bt (Wd.cut 64 b) 63 = true) (hq : ¬ 2 ^ 63 ≤ ab (2 ^ 64) (Wd.cut 64 a) true / ab (2 ^ 64) (Wd.cut 64 b) true) :
    Calls Try.prog 11 #[.int .i64 3, .int .i64 64, .int .u64 a, .int .u64 b] w fun e w' => e = .returned (.tuple #[.int .u64 ((Wd.bz 3 64 a b : Nat) : Int), .int .i64 ((Wd.tr 3 64 a b : Nat) : Int)]) ∧ Below w.heap.size w w' := by
  have hX : Wd.cut 64 a < 2 ^ 64 := Wd.cut_lt (n := 64) (.inr rfl) ha
  have hY : Wd.cut 64 b < 2 ^ 64 := Wd.cut_lt (n := 64) (.inr rfl) hb
  have L1 : Hid (∀ W : World, Calls Try.prog 19 #[.int .i64 64, .int .u64 a] W (LPost W.heap.size 64 (bt (Wd.cut 64 a)) W)) := Lib.hid (fun W => (List_any 64 a W (by decide) (by decide) ha).mono fun e w' h => h.is (vl_cut 64 a (.inr rfl) ha))
  have L2 : Hid (∀ W : World, Calls Try.prog 19 #[.int .i64 64, .int .u64 b] W (LPost W.heap.size 64 (bt (Wd.cut 64 b)) W)) := Lib.hid (fun W => (List_any 64 b W (by decide) (by decide) hb).mono fun e w' h => h.is (vl_cut 64 b (.inr rfl) hb))
  obtain ⟨q1, q2, q3, hB0, hA, hB⟩ := rb_3 (n := 64) (.inr rfl) ha hb h0 ena enb
  obtain ⟨r1, r2⟩ := q2 rfl hq
  clear q1 q2 q3
  have r1 : Wd.bz 3 64 a b = ab (2 ^ 64) (Wd.cut 64 a) true / ab (2 ^ 64) (Wd.cut 64 b) true := r1
  have hA : ab (2 ^ 64) (Wd.cut 64 a) true < 2 ^ 64 := hA
  have hB : ab (2 ^ 64) (Wd.cut 64 b) true < 2 ^ 64 := hB
  have hB0 : ab (2 ^ 64) (Wd.cut 64 b) true ≠ 0 := hB0
  rw [r1, r2]
  clear r1 r2
  generalize Wd.cut 64 a = X at hX L1 ena hA hq ⊢
  generalize Wd.cut 64 b = Y at hY L2 h0 enb hB hB0 hq ⊢
  obtain ⟨N1v, eN1⟩ : ∃ z, z = (2 ^ 64 - X) % 2 ^ 64 := ⟨_, rfl⟩
  have eN1v' : ab (2 ^ 64) X true = N1v := by rw [eN1]; rfl
  obtain ⟨N2v, eN2⟩ : ∃ z, z = (2 ^ 64 - Y) % 2 ^ 64 := ⟨_, rfl⟩
  have eN2v' : ab (2 ^ 64) Y true = N2v := by rw [eN2]; rfl
  simp only [eN1v', eN2v'] at hA hB hB0 hq ⊢
  have N1 : Hid (∀ (W : World) (g c : Nat), 64 ≤ c → c ≤ 9223372036854775807 → Bo W g 64 (bt X) → Calls Try.prog 25 #[.slice (some ⟨g, 0, none⟩) 64 c] W (LPost W.heap.size 64 (bt N1v) W)) := Lib.hid (fun W g c a1 a2 b1 => by rw [eN1]; exact Neg_v g c 64 X W (by decide) (by decide) a1 a2 hX b1)
  have N2 : Hid (∀ (W : World) (g c : Nat), 64 ≤ c → c ≤ 9223372036854775807 → Bo W g 64 (bt Y) → Calls Try.prog 25 #[.slice (some ⟨g, 0, none⟩) 64 c] W (LPost W.heap.size 64 (bt N2v) W)) := Lib.hid (fun W g c a1 a2 b1 => by rw [eN2]; exact Neg_v g c 64 Y W (by decide) (by decide) a1 a2 hY b1)
  have hk : Y % 64 < 64 := Nat.mod_lt _ (by decide)
  have kk : (Y : Int) % 64 = ((Y % 64 : Nat) : Int) := by omega
  have kt : (Y : Int).tmod 64 = ((Y % 64 : Nat) : Int) := by rw [Int.tmod_eq_emod_of_nonneg (by omega)]; omega
  obtain ⟨k, ek⟩ : ∃ k, k = Y % 64 := ⟨_, rfl⟩
  rw [← ek] at hk kk kt
  have hYb : (Y : Int) < 18446744073709551616 := by omega
  have WY : Hid (∀ (W : World) (g c : Nat), 64 ≤ c → c ≤ 9223372036854775807 → Bo W g 64 (bt Y) → Calls Try.prog 20 #[.slice (some ⟨g, 0, none⟩) 64 c] W fun e w' => e = .returned (.int .u64 (Y : Int)) ∧ W = w') := Lib.hid (fun W g c a1 a2 b1 => Word_v g c 64 Y W (by decide) a1 a2 hY b1)
  have ZZ : Hid (∀ (W : World) (g c : Nat), 64 ≤ c → c ≤ 9223372036854775807 → Bo W g 64 (bt Y) → Calls Try.prog 24 #[.slice (some ⟨g, 0, none⟩) 64 c] W fun e w' => e = .returned (.bool false) ∧ W = w') := Lib.hid (fun W g c a1 a2 b1 => by
    have := Zero_v g c 64 Y W (by decide) a1 a2 hY b1
    rw [decide_eq_false h0] at this; exact this)
  have CD : Hid (∀ (W : World) (g1 c1 g2 c2 : Nat), 64 ≤ c1 → c1 ≤ 9223372036854775807 → 64 ≤ c2 → c2 ≤ 9223372036854775807 → Bo W g1 64 (bt N1v) → Bo W g2 64 (bt N2v) → Calls Try.prog 26 #[.slice (some ⟨g1, 0, none⟩) 64 c1, .slice (some ⟨g2, 0, none⟩) 64 c2] W (DPost W.heap.size 64 N1v N2v W)) := Lib.hid (fun W g1 c1 g2 c2 a1 a2 a3 a4 p1 p2 => Divide_v g1 c1 g2 c2 64 N1v N2v W (by decide) (by decide) a1 a3 a2 a4 hA hB hB0 p1 p2)
  obtain ⟨D, eD⟩ : ∃ R, R = N1v / N2v := ⟨_, rfl⟩
  have hD : D < 2 ^ 64 := by rw [eD]; exact Nat.lt_of_le_of_lt (Nat.div_le_self _ _) hA
  have ED := Lib.hid eD
  rw [← eD] at hq ⊢
  have WR : Hid (∀ (W : World) (g c : Nat), 64 ≤ c → c ≤ 9223372036854775807 → Bo W g 64 (bt D) → Calls Try.prog 20 #[.slice (some ⟨g, 0, none⟩) 64 c] W fun e w' => e = .returned (.int .u64 (D : Int)) ∧ W = w') := Lib.hid (fun W g c a1 a2 b1 => Word_v g c 64 D W (by decide) a1 a2 hD b1)
  have ETOP : Hid (bt D 63 = false) := Lib.hid (by rw [top_bit (n := 63) hD]; simp; omega)
  have ENA := Lib.hid ena
  have ENB := Lib.hid enb
  clear hX hY hA hB hB0 hD ek eD ha hb h0 ena enb eN1v' eN2v' eN1 eN2 hq
  go_enter Try.func11, Try.ntmps11
  go_wp2_with (first
    | (go_at_call 19; with_reducible refine (L1.out _).mono ?_; rintro e w1 hL; unfold LPost at hL; obtain ⟨g1, c1, rfl, n1, m1, b1, k1, h1⟩ := hL; have P1 := Lib.hid b1; have B1 := Lib.hid h1; clear b1 k1 h1)
    | (go_at_call 19; with_reducible refine (L2.out _).mono ?_; rintro e w2 hL; unfold LPost at hL; obtain ⟨g2, c2, rfl, n2, m2, b2, k2, h2⟩ := hL; have P2 := Lib.hid b2; have P1' := Lib.hid (P1.out.below h2 P1.out.lt); have B2 := Lib.hid (B1.out.trans (h2.mono B1.out.size)); have x1 : w2.cell? ⟨g1, 63, none⟩ = some (.bool true) := (P1'.out.at_ (by decide)).trans (by rw [ENA.out]); have x2 : w2.cell? ⟨g2, 63, none⟩ = some (.bool true) := (P2.out.at_ (by decide)).trans (by rw [ENB.out]); clear b2 k2 h2)
    | (go_at_call 20; with_reducible refine (WY.out _ _ _ n2 m2 P2.out).mono ?_; rintro e w3 ⟨rfl, rfl⟩)
    | (go_at_call 24; with_reducible refine (ZZ.out _ _ _ n2 m2 P2.out).mono ?_; rintro e w3 ⟨rfl, rfl⟩))
  go_quiet (fail)
  have T1 := Lib.hid (fun k => P1'.out.drewN k)
  have T2 := Lib.hid (fun k => P2.out.drewN k)
  have TB := Lib.hid (fun k => drew_below B2.out k)
  clear x1 x2
  go_wp2_with (first
    | (go_at_call 25; with_reducible refine (N1.out _ _ _ n1 m1 (T1.out _)).mono ?_; rintro e w4 hL; unfold LPost at hL; obtain ⟨g4, c4, rfl, n4, m4, b4, k4, h4⟩ := hL; have U1 := Lib.hid b4; have T2' := Lib.hid ((T2.out _).below h4 (T2.out _).lt); have B4 := Lib.hid ((TB.out _).trans (h4.mono (TB.out _).size)); clear b4 k4 h4)
    | (go_at_call 25; with_reducible refine (N2.out _ _ _ n2 m2 T2'.out).mono ?_; rintro e w5 hL; unfold LPost at hL; obtain ⟨g5, c5, rfl, n5, m5, b5, k5, h5⟩ := hL; have U2 := Lib.hid b5; have V1 := Lib.hid (U1.out.below h5 U1.out.lt); have B5 := Lib.hid (B4.out.trans (h5.mono B4.out.size)); clear b5 k5 h5)
    | (go_at_call 26; with_reducible refine (CD.out _ _ _ _ _ n4 m4 n5 m5 V1.out U2.out).mono ?_; rintro e w6 hL; unfold DPost at hL; obtain ⟨gq, gr, cr, rfl, n6, m6, bq, br, kq, kr, h6⟩ := hL; have x3 : w6.cell? ⟨gq, 63, none⟩ = some (.bool false) := (bq.at_ (by decide)).trans (by rw [← ED.out, ETOP.out]); have Q := Lib.hid bq; have S := Lib.hid br; have B6 := Lib.hid (B5.out.trans (h6.mono B5.out.size)); clear bq br kq kr h6)
    | (go_at_call 20; with_reducible refine (WR.out _ _ _ (Nat.le_refl _) (by decide) (by rw [ED.out]; exact Q.out)).mono ?_; rintro e w8 ⟨rfl, rfl⟩))
  go_ret2
  exact ⟨rfl, B6.out⟩
end Go.Proofs.Ytmbnaejoiglckaa
