/-
  The document's own Test: what it answers, op by op, of words of 32 and of 64 bits.
-/
import Derived.Test.YtmbnaejoiglckaaRc
namespace Go.Proofs.Ytmbnaejoiglckaa
open Go.RowKit
set_option linter.unusedVariables false
set_option maxHeartbeats 1000000 in
set_option maxRecDepth 100000 in
theorem RT_0 (n : Int) (a b : Nat) (w : World) (h : Wd.ok n) (ha : a < 18446744073709551616) (hb : b < 18446744073709551616) :
    Calls Try.prog 13 #[.int .i64 0, .int .i64 n, .int .u64 a, .int .u64 b] w fun e w' => e = .returned (.int .u64 (((rt 0 n a b).toNat : Nat) : Int)) ∧ Below w.heap.size w w' := by
  have hN : n.toNat ≤ 64 := by rcases h with rfl | rfl <;> decide
  have LA := Lib.hid (fun w1 : World => List_int n a w1 h ha)
  have LB := Lib.hid (fun w1 : World => List_int n b w1 h hb)
  have EA := Lib.hid (vl_cut n a h ha)
  have EB := Lib.hid (vl_cut n b h hb)
  have SA := Lib.hid (fun w1 : World => Less_any n a b true w1 h ha hb)
  have SB := Lib.hid (fun w1 : World => Less_any n b a true w1 h hb ha)
  have RT : Hid (rt 0 n a b = rv 0 (decide (Wd.cut n a = Wd.cut n b)) (ls n a b true) (ls n b a true)) := Lib.hid rfl
  obtain ⟨N, hNN⟩ : ∃ N, N = n.toNat := ⟨_, rfl⟩
  rw [← hNN] at hN LA LB EA EB
  obtain ⟨x, ex⟩ : ∃ x, x = Wd.cut n a := ⟨_, rfl⟩
  obtain ⟨y, ey⟩ : ∃ y, y = Wd.cut n b := ⟨_, rfl⟩
  rw [← ex] at EA RT
  rw [← ey] at EB RT
  have hxy : ((x : Int) == (y : Int)) = decide (x = y) := by rw [Bool.eq_iff_iff]; simp; omega
  obtain ⟨same, es⟩ : ∃ s, s = decide (x = y) := ⟨_, rfl⟩
  rw [← es] at hxy RT
  obtain ⟨ab, eab⟩ : ∃ s, s = ls n a b true := ⟨_, rfl⟩
  rw [← eab] at SA RT
  obtain ⟨ba, eba⟩ : ∃ s, s = ls n b a true := ⟨_, rfl⟩
  rw [← eba] at SB RT
  have HA := Lib.hid ha
  have HB := Lib.hid hb
  clear hNN ex ey es eab eba ha hb h
  go_enter Try.func13, Try.ntmps13
  go_wp2_with (first
    | (go_at_call 19; with_reducible refine (LA.out _).mono ?_; rintro e w1 hL; unfold LPost at hL; obtain ⟨g1, c1, rfl, n1, m1, b1, k1, h1⟩ := hL; have B1 := Lib.hid b1; have H1 := Lib.hid h1; clear b1 h1)
    | (go_at_call 20; with_reducible refine (Word_any _ _ _ _ _ hN (by assumption) (by assumption) B1.out).mono ?_; rw [EA.out]; rintro e w2 ⟨rfl, rfl⟩)
    | (go_at_call 19; with_reducible refine (LB.out _).mono ?_; rintro e w3 hL; unfold LPost at hL; obtain ⟨g2, c2, rfl, n2, m2, b2, k2, h2⟩ := hL; have B2 := Lib.hid b2; have H2 := Lib.hid (H1.out.trans (h2.mono H1.out.size)); clear b2 h2)
    | (go_at_call 20; with_reducible refine (Word_any _ _ _ _ _ hN (by assumption) (by assumption) B2.out).mono ?_; rw [EB.out]; rintro e w4 ⟨rfl, rfl⟩)
    | (go_at_call 31; with_reducible refine (SA.out _).mono ?_; rintro e w5 ⟨rfl, h5⟩; have H5 := Lib.hid (H2.out.trans (h5.mono H2.out.size)); clear h5)
    | (go_at_call 31; with_reducible refine (SB.out _).mono ?_; rintro e w6 ⟨rfl, h6⟩; have H6 := Lib.hid (H5.out.trans (h6.mono H5.out.size)); clear h6))
  all_goals
    go_ret
    refine ⟨ret_int ?_, H6.out.alloc H6.out.size _⟩
    rw [RT.out]
    simp_all [rv]
set_option maxHeartbeats 1000000 in
set_option maxRecDepth 100000 in
theorem RT_1 (n : Int) (a b : Nat) (w : World) (h : Wd.ok n) (ha : a < 18446744073709551616) (hb : b < 18446744073709551616) :
    Calls Try.prog 13 #[.int .i64 1, .int .i64 n, .int .u64 a, .int .u64 b] w fun e w' => e = .returned (.int .u64 (((rt 1 n a b).toNat : Nat) : Int)) ∧ Below w.heap.size w w' := by
  have hN : n.toNat ≤ 64 := by rcases h with rfl | rfl <;> decide
  have LA := Lib.hid (fun w1 : World => List_int n a w1 h ha)
  have LB := Lib.hid (fun w1 : World => List_int n b w1 h hb)
  have EA := Lib.hid (vl_cut n a h ha)
  have EB := Lib.hid (vl_cut n b h hb)
  have SA := Lib.hid (fun w1 : World => Less_any n a b false w1 h ha hb)
  have SB := Lib.hid (fun w1 : World => Less_any n b a false w1 h hb ha)
  have RT : Hid (rt 1 n a b = rv 1 (decide (Wd.cut n a = Wd.cut n b)) (ls n a b false) (ls n b a false)) := Lib.hid rfl
  obtain ⟨N, hNN⟩ : ∃ N, N = n.toNat := ⟨_, rfl⟩
  rw [← hNN] at hN LA LB EA EB
  obtain ⟨x, ex⟩ : ∃ x, x = Wd.cut n a := ⟨_, rfl⟩
  obtain ⟨y, ey⟩ : ∃ y, y = Wd.cut n b := ⟨_, rfl⟩
  rw [← ex] at EA RT
  rw [← ey] at EB RT
  have hxy : ((x : Int) == (y : Int)) = decide (x = y) := by rw [Bool.eq_iff_iff]; simp; omega
  obtain ⟨same, es⟩ : ∃ s, s = decide (x = y) := ⟨_, rfl⟩
  rw [← es] at hxy RT
  obtain ⟨ab, eab⟩ : ∃ s, s = ls n a b false := ⟨_, rfl⟩
  rw [← eab] at SA RT
  obtain ⟨ba, eba⟩ : ∃ s, s = ls n b a false := ⟨_, rfl⟩
  rw [← eba] at SB RT
  have HA := Lib.hid ha
  have HB := Lib.hid hb
  clear hNN ex ey es eab eba ha hb h
  go_enter Try.func13, Try.ntmps13
  go_wp2_with (first
    | (go_at_call 19; with_reducible refine (LA.out _).mono ?_; rintro e w1 hL; unfold LPost at hL; obtain ⟨g1, c1, rfl, n1, m1, b1, k1, h1⟩ := hL; have B1 := Lib.hid b1; have H1 := Lib.hid h1; clear b1 h1)
    | (go_at_call 20; with_reducible refine (Word_any _ _ _ _ _ hN (by assumption) (by assumption) B1.out).mono ?_; rw [EA.out]; rintro e w2 ⟨rfl, rfl⟩)
    | (go_at_call 19; with_reducible refine (LB.out _).mono ?_; rintro e w3 hL; unfold LPost at hL; obtain ⟨g2, c2, rfl, n2, m2, b2, k2, h2⟩ := hL; have B2 := Lib.hid b2; have H2 := Lib.hid (H1.out.trans (h2.mono H1.out.size)); clear b2 h2)
    | (go_at_call 20; with_reducible refine (Word_any _ _ _ _ _ hN (by assumption) (by assumption) B2.out).mono ?_; rw [EB.out]; rintro e w4 ⟨rfl, rfl⟩)
    | (go_at_call 31; with_reducible refine (SA.out _).mono ?_; rintro e w5 ⟨rfl, h5⟩; have H5 := Lib.hid (H2.out.trans (h5.mono H2.out.size)); clear h5)
    | (go_at_call 31; with_reducible refine (SB.out _).mono ?_; rintro e w6 ⟨rfl, h6⟩; have H6 := Lib.hid (H5.out.trans (h6.mono H5.out.size)); clear h6))
  all_goals
    go_ret
    refine ⟨ret_int ?_, H6.out.alloc H6.out.size _⟩
    rw [RT.out]
    simp_all [rv]
set_option maxHeartbeats 1000000 in
set_option maxRecDepth 100000 in
theorem RT_2 (n : Int) (a b : Nat) (w : World) (h : Wd.ok n) (ha : a < 18446744073709551616) (hb : b < 18446744073709551616) :
    Calls Try.prog 13 #[.int .i64 2, .int .i64 n, .int .u64 a, .int .u64 b] w fun e w' => e = .returned (.int .u64 (((rt 2 n a b).toNat : Nat) : Int)) ∧ Below w.heap.size w w' := by
  have hN : n.toNat ≤ 64 := by rcases h with rfl | rfl <;> decide
  have LA := Lib.hid (fun w1 : World => List_int n a w1 h ha)
  have LB := Lib.hid (fun w1 : World => List_int n b w1 h hb)
  have EA := Lib.hid (vl_cut n a h ha)
  have EB := Lib.hid (vl_cut n b h hb)
  have SA := Lib.hid (fun w1 : World => Less_any n a b true w1 h ha hb)
  have SB := Lib.hid (fun w1 : World => Less_any n b a true w1 h hb ha)
  have RT : Hid (rt 2 n a b = rv 2 (decide (Wd.cut n a = Wd.cut n b)) (ls n a b true) (ls n b a true)) := Lib.hid rfl
  obtain ⟨N, hNN⟩ : ∃ N, N = n.toNat := ⟨_, rfl⟩
  rw [← hNN] at hN LA LB EA EB
  obtain ⟨x, ex⟩ : ∃ x, x = Wd.cut n a := ⟨_, rfl⟩
  obtain ⟨y, ey⟩ : ∃ y, y = Wd.cut n b := ⟨_, rfl⟩
  rw [← ex] at EA RT
  rw [← ey] at EB RT
  have hxy : ((x : Int) == (y : Int)) = decide (x = y) := by rw [Bool.eq_iff_iff]; simp; omega
  obtain ⟨same, es⟩ : ∃ s, s = decide (x = y) := ⟨_, rfl⟩
  rw [← es] at hxy RT
  obtain ⟨ab, eab⟩ : ∃ s, s = ls n a b true := ⟨_, rfl⟩
  rw [← eab] at SA RT
  obtain ⟨ba, eba⟩ : ∃ s, s = ls n b a true := ⟨_, rfl⟩
  rw [← eba] at SB RT
  have HA := Lib.hid ha
  have HB := Lib.hid hb
  clear hNN ex ey es eab eba ha hb h
  go_enter Try.func13, Try.ntmps13
  go_wp2_with (first
    | (go_at_call 19; with_reducible refine (LA.out _).mono ?_; rintro e w1 hL; unfold LPost at hL; obtain ⟨g1, c1, rfl, n1, m1, b1, k1, h1⟩ := hL; have B1 := Lib.hid b1; have H1 := Lib.hid h1; clear b1 h1)
    | (go_at_call 20; with_reducible refine (Word_any _ _ _ _ _ hN (by assumption) (by assumption) B1.out).mono ?_; rw [EA.out]; rintro e w2 ⟨rfl, rfl⟩)
    | (go_at_call 19; with_reducible refine (LB.out _).mono ?_; rintro e w3 hL; unfold LPost at hL; obtain ⟨g2, c2, rfl, n2, m2, b2, k2, h2⟩ := hL; have B2 := Lib.hid b2; have H2 := Lib.hid (H1.out.trans (h2.mono H1.out.size)); clear b2 h2)
    | (go_at_call 20; with_reducible refine (Word_any _ _ _ _ _ hN (by assumption) (by assumption) B2.out).mono ?_; rw [EB.out]; rintro e w4 ⟨rfl, rfl⟩)
    | (go_at_call 31; with_reducible refine (SA.out _).mono ?_; rintro e w5 ⟨rfl, h5⟩; have H5 := Lib.hid (H2.out.trans (h5.mono H2.out.size)); clear h5)
    | (go_at_call 31; with_reducible refine (SB.out _).mono ?_; rintro e w6 ⟨rfl, h6⟩; have H6 := Lib.hid (H5.out.trans (h6.mono H5.out.size)); clear h6))
  all_goals
    go_ret
    refine ⟨ret_int ?_, H6.out.alloc H6.out.size _⟩
    rw [RT.out]
    simp_all [rv]
set_option maxHeartbeats 1000000 in
set_option maxRecDepth 100000 in
theorem RT_3 (n : Int) (a b : Nat) (w : World) (h : Wd.ok n) (ha : a < 18446744073709551616) (hb : b < 18446744073709551616) :
    Calls Try.prog 13 #[.int .i64 3, .int .i64 n, .int .u64 a, .int .u64 b] w fun e w' => e = .returned (.int .u64 (((rt 3 n a b).toNat : Nat) : Int)) ∧ Below w.heap.size w w' := by
  have hN : n.toNat ≤ 64 := by rcases h with rfl | rfl <;> decide
  have LA := Lib.hid (fun w1 : World => List_int n a w1 h ha)
  have LB := Lib.hid (fun w1 : World => List_int n b w1 h hb)
  have EA := Lib.hid (vl_cut n a h ha)
  have EB := Lib.hid (vl_cut n b h hb)
  have SA := Lib.hid (fun w1 : World => Less_any n a b false w1 h ha hb)
  have SB := Lib.hid (fun w1 : World => Less_any n b a false w1 h hb ha)
  have RT : Hid (rt 3 n a b = rv 3 (decide (Wd.cut n a = Wd.cut n b)) (ls n a b false) (ls n b a false)) := Lib.hid rfl
  obtain ⟨N, hNN⟩ : ∃ N, N = n.toNat := ⟨_, rfl⟩
  rw [← hNN] at hN LA LB EA EB
  obtain ⟨x, ex⟩ : ∃ x, x = Wd.cut n a := ⟨_, rfl⟩
  obtain ⟨y, ey⟩ : ∃ y, y = Wd.cut n b := ⟨_, rfl⟩
  rw [← ex] at EA RT
  rw [← ey] at EB RT
  have hxy : ((x : Int) == (y : Int)) = decide (x = y) := by rw [Bool.eq_iff_iff]; simp; omega
  obtain ⟨same, es⟩ : ∃ s, s = decide (x = y) := ⟨_, rfl⟩
  rw [← es] at hxy RT
  obtain ⟨ab, eab⟩ : ∃ s, s = ls n a b false := ⟨_, rfl⟩
  rw [← eab] at SA RT
  obtain ⟨ba, eba⟩ : ∃ s, s = ls n b a false := ⟨_, rfl⟩
  rw [← eba] at SB RT
  have HA := Lib.hid ha
  have HB := Lib.hid hb
  clear hNN ex ey es eab eba ha hb h
  go_enter Try.func13, Try.ntmps13
  go_wp2_with (first
    | (go_at_call 19; with_reducible refine (LA.out _).mono ?_; rintro e w1 hL; unfold LPost at hL; obtain ⟨g1, c1, rfl, n1, m1, b1, k1, h1⟩ := hL; have B1 := Lib.hid b1; have H1 := Lib.hid h1; clear b1 h1)
    | (go_at_call 20; with_reducible refine (Word_any _ _ _ _ _ hN (by assumption) (by assumption) B1.out).mono ?_; rw [EA.out]; rintro e w2 ⟨rfl, rfl⟩)
    | (go_at_call 19; with_reducible refine (LB.out _).mono ?_; rintro e w3 hL; unfold LPost at hL; obtain ⟨g2, c2, rfl, n2, m2, b2, k2, h2⟩ := hL; have B2 := Lib.hid b2; have H2 := Lib.hid (H1.out.trans (h2.mono H1.out.size)); clear b2 h2)
    | (go_at_call 20; with_reducible refine (Word_any _ _ _ _ _ hN (by assumption) (by assumption) B2.out).mono ?_; rw [EB.out]; rintro e w4 ⟨rfl, rfl⟩)
    | (go_at_call 31; with_reducible refine (SA.out _).mono ?_; rintro e w5 ⟨rfl, h5⟩; have H5 := Lib.hid (H2.out.trans (h5.mono H2.out.size)); clear h5)
    | (go_at_call 31; with_reducible refine (SB.out _).mono ?_; rintro e w6 ⟨rfl, h6⟩; have H6 := Lib.hid (H5.out.trans (h6.mono H5.out.size)); clear h6))
  all_goals
    go_ret
    refine ⟨ret_int ?_, H6.out.alloc H6.out.size _⟩
    rw [RT.out]
    simp_all [rv]
set_option maxHeartbeats 1000000 in
set_option maxRecDepth 100000 in
theorem RT_4 (n : Int) (a b : Nat) (w : World) (h : Wd.ok n) (ha : a < 18446744073709551616) (hb : b < 18446744073709551616) :
    Calls Try.prog 13 #[.int .i64 4, .int .i64 n, .int .u64 a, .int .u64 b] w fun e w' => e = .returned (.int .u64 (((rt 4 n a b).toNat : Nat) : Int)) ∧ Below w.heap.size w w' := by
  have hN : n.toNat ≤ 64 := by rcases h with rfl | rfl <;> decide
  have LA := Lib.hid (fun w1 : World => List_int n a w1 h ha)
  have LB := Lib.hid (fun w1 : World => List_int n b w1 h hb)
  have EA := Lib.hid (vl_cut n a h ha)
  have EB := Lib.hid (vl_cut n b h hb)
  have SA := Lib.hid (fun w1 : World => Less_any n a b true w1 h ha hb)
  have SB := Lib.hid (fun w1 : World => Less_any n b a true w1 h hb ha)
  have RT : Hid (rt 4 n a b = rv 4 (decide (Wd.cut n a = Wd.cut n b)) (ls n a b true) (ls n b a true)) := Lib.hid rfl
  obtain ⟨N, hNN⟩ : ∃ N, N = n.toNat := ⟨_, rfl⟩
  rw [← hNN] at hN LA LB EA EB
  obtain ⟨x, ex⟩ : ∃ x, x = Wd.cut n a := ⟨_, rfl⟩
  obtain ⟨y, ey⟩ : ∃ y, y = Wd.cut n b := ⟨_, rfl⟩
  rw [← ex] at EA RT
  rw [← ey] at EB RT
  have hxy : ((x : Int) == (y : Int)) = decide (x = y) := by rw [Bool.eq_iff_iff]; simp; omega
  obtain ⟨same, es⟩ : ∃ s, s = decide (x = y) := ⟨_, rfl⟩
  rw [← es] at hxy RT
  obtain ⟨ab, eab⟩ : ∃ s, s = ls n a b true := ⟨_, rfl⟩
  rw [← eab] at SA RT
  obtain ⟨ba, eba⟩ : ∃ s, s = ls n b a true := ⟨_, rfl⟩
  rw [← eba] at SB RT
  have HA := Lib.hid ha
  have HB := Lib.hid hb
  clear hNN ex ey es eab eba ha hb h
  go_enter Try.func13, Try.ntmps13
  go_wp2_with (first
    | (go_at_call 19; with_reducible refine (LA.out _).mono ?_; rintro e w1 hL; unfold LPost at hL; obtain ⟨g1, c1, rfl, n1, m1, b1, k1, h1⟩ := hL; have B1 := Lib.hid b1; have H1 := Lib.hid h1; clear b1 h1)
    | (go_at_call 20; with_reducible refine (Word_any _ _ _ _ _ hN (by assumption) (by assumption) B1.out).mono ?_; rw [EA.out]; rintro e w2 ⟨rfl, rfl⟩)
    | (go_at_call 19; with_reducible refine (LB.out _).mono ?_; rintro e w3 hL; unfold LPost at hL; obtain ⟨g2, c2, rfl, n2, m2, b2, k2, h2⟩ := hL; have B2 := Lib.hid b2; have H2 := Lib.hid (H1.out.trans (h2.mono H1.out.size)); clear b2 h2)
    | (go_at_call 20; with_reducible refine (Word_any _ _ _ _ _ hN (by assumption) (by assumption) B2.out).mono ?_; rw [EB.out]; rintro e w4 ⟨rfl, rfl⟩)
    | (go_at_call 31; with_reducible refine (SA.out _).mono ?_; rintro e w5 ⟨rfl, h5⟩; have H5 := Lib.hid (H2.out.trans (h5.mono H2.out.size)); clear h5)
    | (go_at_call 31; with_reducible refine (SB.out _).mono ?_; rintro e w6 ⟨rfl, h6⟩; have H6 := Lib.hid (H5.out.trans (h6.mono H5.out.size)); clear h6))
  all_goals
    go_ret
    refine ⟨ret_int ?_, H6.out.alloc H6.out.size _⟩
    rw [RT.out]
    simp_all [rv]
set_option maxHeartbeats 1000000 in
set_option maxRecDepth 100000 in
theorem RT_5 (n : Int) (a b : Nat) (w : World) (h : Wd.ok n) (ha : a < 18446744073709551616) (hb : b < 18446744073709551616) :
    Calls Try.prog 13 #[.int .i64 5, .int .i64 n, .int .u64 a, .int .u64 b] w fun e w' => e = .returned (.int .u64 (((rt 5 n a b).toNat : Nat) : Int)) ∧ Below w.heap.size w w' := by
  have hN : n.toNat ≤ 64 := by rcases h with rfl | rfl <;> decide
  have LA := Lib.hid (fun w1 : World => List_int n a w1 h ha)
  have LB := Lib.hid (fun w1 : World => List_int n b w1 h hb)
  have EA := Lib.hid (vl_cut n a h ha)
  have EB := Lib.hid (vl_cut n b h hb)
  have SA := Lib.hid (fun w1 : World => Less_any n a b false w1 h ha hb)
  have SB := Lib.hid (fun w1 : World => Less_any n b a false w1 h hb ha)
  have RT : Hid (rt 5 n a b = rv 5 (decide (Wd.cut n a = Wd.cut n b)) (ls n a b false) (ls n b a false)) := Lib.hid rfl
  obtain ⟨N, hNN⟩ : ∃ N, N = n.toNat := ⟨_, rfl⟩
  rw [← hNN] at hN LA LB EA EB
  obtain ⟨x, ex⟩ : ∃ x, x = Wd.cut n a := ⟨_, rfl⟩
  obtain ⟨y, ey⟩ : ∃ y, y = Wd.cut n b := ⟨_, rfl⟩
  rw [← ex] at EA RT
  rw [← ey] at EB RT
  have hxy : ((x : Int) == (y : Int)) = decide (x = y) := by rw [Bool.eq_iff_iff]; simp; omega
  obtain ⟨same, es⟩ : ∃ s, s = decide (x = y) := ⟨_, rfl⟩
  rw [← es] at hxy RT
  obtain ⟨ab, eab⟩ : ∃ s, s = ls n a b false := ⟨_, rfl⟩
  rw [← eab] at SA RT
  obtain ⟨ba, eba⟩ : ∃ s, s = ls n b a false := ⟨_, rfl⟩
  rw [← eba] at SB RT
  have HA := Lib.hid ha
  have HB := Lib.hid hb
  clear hNN ex ey es eab eba ha hb h
  go_enter Try.func13, Try.ntmps13
  go_wp2_with (first
    | (go_at_call 19; with_reducible refine (LA.out _).mono ?_; rintro e w1 hL; unfold LPost at hL; obtain ⟨g1, c1, rfl, n1, m1, b1, k1, h1⟩ := hL; have B1 := Lib.hid b1; have H1 := Lib.hid h1; clear b1 h1)
    | (go_at_call 20; with_reducible refine (Word_any _ _ _ _ _ hN (by assumption) (by assumption) B1.out).mono ?_; rw [EA.out]; rintro e w2 ⟨rfl, rfl⟩)
    | (go_at_call 19; with_reducible refine (LB.out _).mono ?_; rintro e w3 hL; unfold LPost at hL; obtain ⟨g2, c2, rfl, n2, m2, b2, k2, h2⟩ := hL; have B2 := Lib.hid b2; have H2 := Lib.hid (H1.out.trans (h2.mono H1.out.size)); clear b2 h2)
    | (go_at_call 20; with_reducible refine (Word_any _ _ _ _ _ hN (by assumption) (by assumption) B2.out).mono ?_; rw [EB.out]; rintro e w4 ⟨rfl, rfl⟩)
    | (go_at_call 31; with_reducible refine (SA.out _).mono ?_; rintro e w5 ⟨rfl, h5⟩; have H5 := Lib.hid (H2.out.trans (h5.mono H2.out.size)); clear h5)
    | (go_at_call 31; with_reducible refine (SB.out _).mono ?_; rintro e w6 ⟨rfl, h6⟩; have H6 := Lib.hid (H5.out.trans (h6.mono H5.out.size)); clear h6))
  all_goals
    go_ret
    refine ⟨ret_int ?_, H6.out.alloc H6.out.size _⟩
    rw [RT.out]
    simp_all [rv]
set_option maxHeartbeats 1000000 in
set_option maxRecDepth 100000 in
theorem RT_6 (n : Int) (a b : Nat) (w : World) (h : Wd.ok n) (ha : a < 18446744073709551616) (hb : b < 18446744073709551616) :
    Calls Try.prog 13 #[.int .i64 6, .int .i64 n, .int .u64 a, .int .u64 b] w fun e w' => e = .returned (.int .u64 (((rt 6 n a b).toNat : Nat) : Int)) ∧ Below w.heap.size w w' := by
  have hN : n.toNat ≤ 64 := by rcases h with rfl | rfl <;> decide
  have LA := Lib.hid (fun w1 : World => List_int n a w1 h ha)
  have LB := Lib.hid (fun w1 : World => List_int n b w1 h hb)
  have EA := Lib.hid (vl_cut n a h ha)
  have EB := Lib.hid (vl_cut n b h hb)
  have SA := Lib.hid (fun w1 : World => Less_any n a b true w1 h ha hb)
  have SB := Lib.hid (fun w1 : World => Less_any n b a true w1 h hb ha)
  have RT : Hid (rt 6 n a b = rv 6 (decide (Wd.cut n a = Wd.cut n b)) (ls n a b true) (ls n b a true)) := Lib.hid rfl
  obtain ⟨N, hNN⟩ : ∃ N, N = n.toNat := ⟨_, rfl⟩
  rw [← hNN] at hN LA LB EA EB
  obtain ⟨x, ex⟩ : ∃ x, x = Wd.cut n a := ⟨_, rfl⟩
  obtain ⟨y, ey⟩ : ∃ y, y = Wd.cut n b := ⟨_, rfl⟩
  rw [← ex] at EA RT
  rw [← ey] at EB RT
  have hxy : ((x : Int) == (y : Int)) = decide (x = y) := by rw [Bool.eq_iff_iff]; simp; omega
  obtain ⟨same, es⟩ : ∃ s, s = decide (x = y) := ⟨_, rfl⟩
  rw [← es] at hxy RT
  obtain ⟨ab, eab⟩ : ∃ s, s = ls n a b true := ⟨_, rfl⟩
  rw [← eab] at SA RT
  obtain ⟨ba, eba⟩ : ∃ s, s = ls n b a true := ⟨_, rfl⟩
  rw [← eba] at SB RT
  have HA := Lib.hid ha
  have HB := Lib.hid hb
  clear hNN ex ey es eab eba ha hb h
  go_enter Try.func13, Try.ntmps13
  go_wp2_with (first
    | (go_at_call 19; with_reducible refine (LA.out _).mono ?_; rintro e w1 hL; unfold LPost at hL; obtain ⟨g1, c1, rfl, n1, m1, b1, k1, h1⟩ := hL; have B1 := Lib.hid b1; have H1 := Lib.hid h1; clear b1 h1)
    | (go_at_call 20; with_reducible refine (Word_any _ _ _ _ _ hN (by assumption) (by assumption) B1.out).mono ?_; rw [EA.out]; rintro e w2 ⟨rfl, rfl⟩)
    | (go_at_call 19; with_reducible refine (LB.out _).mono ?_; rintro e w3 hL; unfold LPost at hL; obtain ⟨g2, c2, rfl, n2, m2, b2, k2, h2⟩ := hL; have B2 := Lib.hid b2; have H2 := Lib.hid (H1.out.trans (h2.mono H1.out.size)); clear b2 h2)
    | (go_at_call 20; with_reducible refine (Word_any _ _ _ _ _ hN (by assumption) (by assumption) B2.out).mono ?_; rw [EB.out]; rintro e w4 ⟨rfl, rfl⟩)
    | (go_at_call 31; with_reducible refine (SA.out _).mono ?_; rintro e w5 ⟨rfl, h5⟩; have H5 := Lib.hid (H2.out.trans (h5.mono H2.out.size)); clear h5)
    | (go_at_call 31; with_reducible refine (SB.out _).mono ?_; rintro e w6 ⟨rfl, h6⟩; have H6 := Lib.hid (H5.out.trans (h6.mono H5.out.size)); clear h6))
  all_goals
    go_ret
    refine ⟨ret_int ?_, H6.out.alloc H6.out.size _⟩
    rw [RT.out]
    simp_all [rv]
set_option maxHeartbeats 1000000 in
set_option maxRecDepth 100000 in
theorem RT_7 (n : Int) (a b : Nat) (w : World) (h : Wd.ok n) (ha : a < 18446744073709551616) (hb : b < 18446744073709551616) :
    Calls Try.prog 13 #[.int .i64 7, .int .i64 n, .int .u64 a, .int .u64 b] w fun e w' => e = .returned (.int .u64 (((rt 7 n a b).toNat : Nat) : Int)) ∧ Below w.heap.size w w' := by
  have hN : n.toNat ≤ 64 := by rcases h with rfl | rfl <;> decide
  have LA := Lib.hid (fun w1 : World => List_int n a w1 h ha)
  have LB := Lib.hid (fun w1 : World => List_int n b w1 h hb)
  have EA := Lib.hid (vl_cut n a h ha)
  have EB := Lib.hid (vl_cut n b h hb)
  have SA := Lib.hid (fun w1 : World => Less_any n a b false w1 h ha hb)
  have SB := Lib.hid (fun w1 : World => Less_any n b a false w1 h hb ha)
  have RT : Hid (rt 7 n a b = rv 7 (decide (Wd.cut n a = Wd.cut n b)) (ls n a b false) (ls n b a false)) := Lib.hid rfl
  obtain ⟨N, hNN⟩ : ∃ N, N = n.toNat := ⟨_, rfl⟩
  rw [← hNN] at hN LA LB EA EB
  obtain ⟨x, ex⟩ : ∃ x, x = Wd.cut n a := ⟨_, rfl⟩
  obtain ⟨y, ey⟩ : ∃ y, y = Wd.cut n b := ⟨_, rfl⟩
  rw [← ex] at EA RT
  rw [← ey] at EB RT
  have hxy : ((x : Int) == (y : Int)) = decide (x = y) := by rw [Bool.eq_iff_iff]; simp; omega
  obtain ⟨same, es⟩ : ∃ s, s = decide (x = y) := ⟨_, rfl⟩
  rw [← es] at hxy RT
  obtain ⟨ab, eab⟩ : ∃ s, s = ls n a b false := ⟨_, rfl⟩
  rw [← eab] at SA RT
  obtain ⟨ba, eba⟩ : ∃ s, s = ls n b a false := ⟨_, rfl⟩
  rw [← eba] at SB RT
  have HA := Lib.hid ha
  have HB := Lib.hid hb
  clear hNN ex ey es eab eba ha hb h
  go_enter Try.func13, Try.ntmps13
  go_wp2_with (first
    | (go_at_call 19; with_reducible refine (LA.out _).mono ?_; rintro e w1 hL; unfold LPost at hL; obtain ⟨g1, c1, rfl, n1, m1, b1, k1, h1⟩ := hL; have B1 := Lib.hid b1; have H1 := Lib.hid h1; clear b1 h1)
    | (go_at_call 20; with_reducible refine (Word_any _ _ _ _ _ hN (by assumption) (by assumption) B1.out).mono ?_; rw [EA.out]; rintro e w2 ⟨rfl, rfl⟩)
    | (go_at_call 19; with_reducible refine (LB.out _).mono ?_; rintro e w3 hL; unfold LPost at hL; obtain ⟨g2, c2, rfl, n2, m2, b2, k2, h2⟩ := hL; have B2 := Lib.hid b2; have H2 := Lib.hid (H1.out.trans (h2.mono H1.out.size)); clear b2 h2)
    | (go_at_call 20; with_reducible refine (Word_any _ _ _ _ _ hN (by assumption) (by assumption) B2.out).mono ?_; rw [EB.out]; rintro e w4 ⟨rfl, rfl⟩)
    | (go_at_call 31; with_reducible refine (SA.out _).mono ?_; rintro e w5 ⟨rfl, h5⟩; have H5 := Lib.hid (H2.out.trans (h5.mono H2.out.size)); clear h5)
    | (go_at_call 31; with_reducible refine (SB.out _).mono ?_; rintro e w6 ⟨rfl, h6⟩; have H6 := Lib.hid (H5.out.trans (h6.mono H5.out.size)); clear h6))
  all_goals
    go_ret
    refine ⟨ret_int ?_, H6.out.alloc H6.out.size _⟩
    rw [RT.out]
    simp_all [rv]
set_option maxHeartbeats 1000000 in
set_option maxRecDepth 100000 in
theorem RT_8 (n : Int) (a b : Nat) (w : World) (h : Wd.ok n) (ha : a < 18446744073709551616) (hb : b < 18446744073709551616) :
    Calls Try.prog 13 #[.int .i64 8, .int .i64 n, .int .u64 a, .int .u64 b] w fun e w' => e = .returned (.int .u64 (((rt 8 n a b).toNat : Nat) : Int)) ∧ Below w.heap.size w w' := by
  have hN : n.toNat ≤ 64 := by rcases h with rfl | rfl <;> decide
  have LA := Lib.hid (fun w1 : World => List_int n a w1 h ha)
  have LB := Lib.hid (fun w1 : World => List_int n b w1 h hb)
  have EA := Lib.hid (vl_cut n a h ha)
  have EB := Lib.hid (vl_cut n b h hb)
  have SA := Lib.hid (fun w1 : World => Less_any n a b true w1 h ha hb)
  have SB := Lib.hid (fun w1 : World => Less_any n b a true w1 h hb ha)
  have RT : Hid (rt 8 n a b = rv 8 (decide (Wd.cut n a = Wd.cut n b)) (ls n a b true) (ls n b a true)) := Lib.hid rfl
  obtain ⟨N, hNN⟩ : ∃ N, N = n.toNat := ⟨_, rfl⟩
  rw [← hNN] at hN LA LB EA EB
  obtain ⟨x, ex⟩ : ∃ x, x = Wd.cut n a := ⟨_, rfl⟩
  obtain ⟨y, ey⟩ : ∃ y, y = Wd.cut n b := ⟨_, rfl⟩
  rw [← ex] at EA RT
  rw [← ey] at EB RT
  have hxy : ((x : Int) == (y : Int)) = decide (x = y) := by rw [Bool.eq_iff_iff]; simp; omega
  obtain ⟨same, es⟩ : ∃ s, s = decide (x = y) := ⟨_, rfl⟩
  rw [← es] at hxy RT
  obtain ⟨ab, eab⟩ : ∃ s, s = ls n a b true := ⟨_, rfl⟩
  rw [← eab] at SA RT
  obtain ⟨ba, eba⟩ : ∃ s, s = ls n b a true := ⟨_, rfl⟩
  rw [← eba] at SB RT
  have HA := Lib.hid ha
  have HB := Lib.hid hb
  clear hNN ex ey es eab eba ha hb h
  go_enter Try.func13, Try.ntmps13
  go_wp2_with (first
    | (go_at_call 19; with_reducible refine (LA.out _).mono ?_; rintro e w1 hL; unfold LPost at hL; obtain ⟨g1, c1, rfl, n1, m1, b1, k1, h1⟩ := hL; have B1 := Lib.hid b1; have H1 := Lib.hid h1; clear b1 h1)
    | (go_at_call 20; with_reducible refine (Word_any _ _ _ _ _ hN (by assumption) (by assumption) B1.out).mono ?_; rw [EA.out]; rintro e w2 ⟨rfl, rfl⟩)
    | (go_at_call 19; with_reducible refine (LB.out _).mono ?_; rintro e w3 hL; unfold LPost at hL; obtain ⟨g2, c2, rfl, n2, m2, b2, k2, h2⟩ := hL; have B2 := Lib.hid b2; have H2 := Lib.hid (H1.out.trans (h2.mono H1.out.size)); clear b2 h2)
    | (go_at_call 20; with_reducible refine (Word_any _ _ _ _ _ hN (by assumption) (by assumption) B2.out).mono ?_; rw [EB.out]; rintro e w4 ⟨rfl, rfl⟩)
    | (go_at_call 31; with_reducible refine (SA.out _).mono ?_; rintro e w5 ⟨rfl, h5⟩; have H5 := Lib.hid (H2.out.trans (h5.mono H2.out.size)); clear h5)
    | (go_at_call 31; with_reducible refine (SB.out _).mono ?_; rintro e w6 ⟨rfl, h6⟩; have H6 := Lib.hid (H5.out.trans (h6.mono H5.out.size)); clear h6))
  all_goals
    go_ret
    refine ⟨ret_int ?_, H6.out.alloc H6.out.size _⟩
    rw [RT.out]
    simp_all [rv]
set_option maxHeartbeats 1000000 in
set_option maxRecDepth 100000 in
theorem RT_9 (n : Int) (a b : Nat) (w : World) (h : Wd.ok n) (ha : a < 18446744073709551616) (hb : b < 18446744073709551616) :
    Calls Try.prog 13 #[.int .i64 9, .int .i64 n, .int .u64 a, .int .u64 b] w fun e w' => e = .returned (.int .u64 (((rt 9 n a b).toNat : Nat) : Int)) ∧ Below w.heap.size w w' := by
  have hN : n.toNat ≤ 64 := by rcases h with rfl | rfl <;> decide
  have LA := Lib.hid (fun w1 : World => List_int n a w1 h ha)
  have LB := Lib.hid (fun w1 : World => List_int n b w1 h hb)
  have EA := Lib.hid (vl_cut n a h ha)
  have EB := Lib.hid (vl_cut n b h hb)
  have SA := Lib.hid (fun w1 : World => Less_any n a b false w1 h ha hb)
  have SB := Lib.hid (fun w1 : World => Less_any n b a false w1 h hb ha)
  have RT : Hid (rt 9 n a b = rv 9 (decide (Wd.cut n a = Wd.cut n b)) (ls n a b false) (ls n b a false)) := Lib.hid rfl
  obtain ⟨N, hNN⟩ : ∃ N, N = n.toNat := ⟨_, rfl⟩
  rw [← hNN] at hN LA LB EA EB
  obtain ⟨x, ex⟩ : ∃ x, x = Wd.cut n a := ⟨_, rfl⟩
  obtain ⟨y, ey⟩ : ∃ y, y = Wd.cut n b := ⟨_, rfl⟩
  rw [← ex] at EA RT
  rw [← ey] at EB RT
  have hxy : ((x : Int) == (y : Int)) = decide (x = y) := by rw [Bool.eq_iff_iff]; simp; omega
  obtain ⟨same, es⟩ : ∃ s, s = decide (x = y) := ⟨_, rfl⟩
  rw [← es] at hxy RT
  obtain ⟨ab, eab⟩ : ∃ s, s = ls n a b false := ⟨_, rfl⟩
  rw [← eab] at SA RT
  obtain ⟨ba, eba⟩ : ∃ s, s = ls n b a false := ⟨_, rfl⟩
  rw [← eba] at SB RT
  have HA := Lib.hid ha
  have HB := Lib.hid hb
  clear hNN ex ey es eab eba ha hb h
  go_enter Try.func13, Try.ntmps13
  go_wp2_with (first
    | (go_at_call 19; with_reducible refine (LA.out _).mono ?_; rintro e w1 hL; unfold LPost at hL; obtain ⟨g1, c1, rfl, n1, m1, b1, k1, h1⟩ := hL; have B1 := Lib.hid b1; have H1 := Lib.hid h1; clear b1 h1)
    | (go_at_call 20; with_reducible refine (Word_any _ _ _ _ _ hN (by assumption) (by assumption) B1.out).mono ?_; rw [EA.out]; rintro e w2 ⟨rfl, rfl⟩)
    | (go_at_call 19; with_reducible refine (LB.out _).mono ?_; rintro e w3 hL; unfold LPost at hL; obtain ⟨g2, c2, rfl, n2, m2, b2, k2, h2⟩ := hL; have B2 := Lib.hid b2; have H2 := Lib.hid (H1.out.trans (h2.mono H1.out.size)); clear b2 h2)
    | (go_at_call 20; with_reducible refine (Word_any _ _ _ _ _ hN (by assumption) (by assumption) B2.out).mono ?_; rw [EB.out]; rintro e w4 ⟨rfl, rfl⟩)
    | (go_at_call 31; with_reducible refine (SA.out _).mono ?_; rintro e w5 ⟨rfl, h5⟩; have H5 := Lib.hid (H2.out.trans (h5.mono H2.out.size)); clear h5)
    | (go_at_call 31; with_reducible refine (SB.out _).mono ?_; rintro e w6 ⟨rfl, h6⟩; have H6 := Lib.hid (H5.out.trans (h6.mono H5.out.size)); clear h6))
  all_goals
    go_ret
    refine ⟨ret_int ?_, H6.out.alloc H6.out.size _⟩
    rw [RT.out]
    simp_all [rv]
theorem RTest_any (op n : Int) (a b : Nat) (w : World) (h : Wd.ok n) (h0 : 0 ≤ op) (h9 : op ≤ 9) (ha : a < 18446744073709551616) (hb : b < 18446744073709551616) :
    Calls Try.prog 13 #[.int .i64 op, .int .i64 n, .int .u64 a, .int .u64 b] w fun e w' => e = .returned (.int .u64 ((Wd.tz op n a b : Nat) : Int)) ∧ Below w.heap.size w w' := by
  rw [← rt_is op n a b h0 h9]
  rcases (by omega : op = 0 ∨ op = 1 ∨ op = 2 ∨ op = 3 ∨ op = 4 ∨ op = 5 ∨ op = 6 ∨ op = 7 ∨ op = 8 ∨ op = 9) with rfl | rfl | rfl | rfl | rfl | rfl | rfl | rfl | rfl | rfl
  · exact RT_0 n a b w h ha hb
  · exact RT_1 n a b w h ha hb
  · exact RT_2 n a b w h ha hb
  · exact RT_3 n a b w h ha hb
  · exact RT_4 n a b w h ha hb
  · exact RT_5 n a b w h ha hb
  · exact RT_6 n a b w h ha hb
  · exact RT_7 n a b w h ha hb
  · exact RT_8 n a b w h ha hb
  · exact RT_9 n a b w h ha hb
end Go.Proofs.Ytmbnaejoiglckaa
