/-
  The document's own Less and Test: what they answer, of words of 32 and of 64 bits.
-/
import Derived.Test.YtmbnaejoiglckaaRb
namespace Go.Proofs.Ytmbnaejoiglckaa
open Go.RowKit
set_option linter.unusedVariables false
theorem Bo.lt {w : World} {g n : Nat} {f : Nat → Bool} (h : Bo w g n f) : g < w.heap.size := h.1
theorem Bo.drewN {w : World} {g n : Nat} {f : Nat → Bool} (h : Bo w g n f) (k : Nat) : Bo (w.drewN k) g n f := h
/-- less, with a sign or without -/
def ls (n : Int) (a b : Nat) (s : Bool) : Bool := if s then decide (Wd.sgn n (Wd.cut n a) < Wd.sgn n (Wd.cut n b)) else decide (Wd.cut n a < Wd.cut n b)
theorem ls_bits32 (a b : Nat) : ls 32 a b false = decide (vl (bt a) 0 32 < vl (bt b) 0 32) ∧ (bt a 31 = bt b 31 → ls 32 a b true = decide (vl (bt a) 0 32 < vl (bt b) 0 32)) ∧ (bt a 31 ≠ bt b 31 → ls 32 a b true = bt a 31) := by
  have ha : Wd.cut 32 a < Wd.md 32 := by simp [Wd.cut, Wd.md]; omega
  have hb : Wd.cut 32 b < Wd.md 32 := by simp [Wd.cut, Wd.md]; omega
  simp only [ls, vl_bt, Nat.pow_zero, Nat.div_one]
  simp only [Wd.sgn_of_lt (.inl rfl) ha, Wd.sgn_of_lt (.inl rfl) hb]
  simp only [Wd.cut, Wd.md, bt, if_true]
  refine ⟨by simp, ?_, ?_⟩
  · intro h
    simp only [decide_eq_decide] at h
    simp only [decide_eq_decide]
    simp only [Nat.reducePow] at h ⊢
    split <;> split <;> omega
  · intro h
    rw [ne_eq, decide_eq_decide] at h
    simp only [decide_eq_decide]
    simp only [Nat.reducePow] at h ⊢
    split <;> split <;> omega
theorem ls_bits64 (a b : Nat) (ha : a < 18446744073709551616) (hb : b < 18446744073709551616) : ls 64 a b false = decide (vl (bt a) 0 64 < vl (bt b) 0 64) ∧ (bt a 63 = bt b 63 → ls 64 a b true = decide (vl (bt a) 0 64 < vl (bt b) 0 64)) ∧ (bt a 63 ≠ bt b 63 → ls 64 a b true = bt a 63) := by
  have ha' : Wd.cut 64 a < Wd.md 64 := by simp [Wd.cut, Wd.md]; omega
  have hb' : Wd.cut 64 b < Wd.md 64 := by simp [Wd.cut, Wd.md]; omega
  simp only [ls, vl_bt, Nat.pow_zero, Nat.div_one]
  simp only [Wd.sgn_of_lt (.inr rfl) ha', Wd.sgn_of_lt (.inr rfl) hb']
  simp only [Wd.cut, Wd.md, bt, if_true, show ((64 : Int) = 32) = False from by simp, if_false]
  refine ⟨by simp; omega, ?_, ?_⟩
  · intro h
    simp only [decide_eq_decide] at h
    simp only [decide_eq_decide]
    simp only [Nat.reducePow] at h ⊢
    split <;> split <;> omega
  · intro h
    rw [ne_eq, decide_eq_decide] at h
    simp only [decide_eq_decide]
    simp only [Nat.reducePow] at h ⊢
    split <;> split <;> omega
set_option maxHeartbeats 4000000 in
set_option maxRecDepth 100000 in
theorem Less_32 (a b : Nat) (s : Bool) (w : World) (ha : a < 18446744073709551616) (hb : b < 18446744073709551616) :
    Calls Try.prog 31 #[.int .i64 32, .int .u64 a, .int .u64 b, .bool s] w fun e w' => e = .returned (.bool (ls 32 a b s)) ∧ Below w.heap.size w w' := by
  have L1 : Hid (Calls Try.prog 19 #[.int .i64 32, .int .u64 a] w (LPost w.heap.size 32 (bt a) w)) := Lib.hid (List_any 32 a w (by decide) (by decide) ha)
  have L2 : Hid (∀ w1 : World, Calls Try.prog 19 #[.int .i64 32, .int .u64 b] w1 (LPost w1.heap.size 32 (bt b) w1)) := Lib.hid (fun w1 => List_any 32 b w1 (by decide) (by decide) hb)
  have K := Lib.hid (ls_bits32 a b)
  obtain ⟨x, ex⟩ : ∃ x, x = bt a 31 := ⟨_, rfl⟩
  obtain ⟨y, ey⟩ : ∃ x, x = bt b 31 := ⟨_, rfl⟩
  rw [← ex, ← ey] at K
  have EX := Lib.hid ex
  have EY := Lib.hid ey
  clear ha hb ex ey
  cases s
  · go_enter Try.func31, Try.ntmps31
    go_wp2_with (first
      | (go_at_call 19; with_reducible refine L1.out.mono ?_; rintro e w1 hL; unfold LPost at hL; obtain ⟨g1, c1, rfl, n1, m1, b1, k1, h1⟩ := hL; have B1 := Lib.hid b1; have H1 := Lib.hid h1; clear b1 h1)
      | (go_at_call 19; with_reducible refine (L2.out _).mono ?_; rintro e w2 hL; unfold LPost at hL; obtain ⟨g2, c2, rfl, n2, m2, b2, k2, h2⟩ := hL; have B2 := Lib.hid b2; have H2 := Lib.hid h2; have B1' := Lib.hid (B1.out.below h2 B1.out.lt); clear b2 h2))
    go_quiet (fail)
    go_wp2_with (go_at_call 36; refine (less_any g1 c1 g2 c2 32 (bt a) (bt b) _ (by decide) n1 n2 m1 m2 (B1'.out.drewN _) (B2.out.drewN _)).mono ?_; rintro e w3 ⟨rfl, hb3⟩; have H3 := Lib.hid hb3; clear hb3)
    go_ret
    exact ⟨ret_bool K.out.1.symm, (drew_below (H1.out.trans (H2.out.mono H1.out.size)) _).trans (H3.out.mono (H1.out.trans (H2.out.mono H1.out.size)).size)⟩
  · by_cases hxy : x = y
    · have hc := Lib.hid (K.out.2.1 hxy)
      subst hxy
      have hx2 : (x != x) = false := by cases x <;> rfl
      go_enter Try.func31, Try.ntmps31
      go_wp2_with (first
        | (go_at_call 19; with_reducible refine L1.out.mono ?_; rintro e w1 hL; unfold LPost at hL; obtain ⟨g1, c1, rfl, n1, m1, b1, k1, h1⟩ := hL; have B1 := Lib.hid b1; have H1 := Lib.hid h1; clear b1 h1)
        | (go_at_call 19; with_reducible refine (L2.out _).mono ?_; rintro e w2 hL; unfold LPost at hL; obtain ⟨g2, c2, rfl, n2, m2, b2, k2, h2⟩ := hL; have B2 := Lib.hid b2; have H2 := Lib.hid h2; have B1' := Lib.hid (B1.out.below h2 B1.out.lt); clear b2 h2))
      have q1 := B1'.out.2 31 (by decide)
      have q2 := B2.out.2 31 (by decide)
      rw [← EX.out] at q1
      rw [← EY.out] at q2
      go_quiet (fail)
      go_wp2_with (go_at_call 36; refine (less_any g1 c1 g2 c2 32 (bt a) (bt b) _ (by decide) n1 n2 m1 m2 (B1'.out.drewN _) (B2.out.drewN _)).mono ?_; rintro e w3 ⟨rfl, hb3⟩; have H3 := Lib.hid hb3; clear hb3)
      go_ret
      exact ⟨ret_bool hc.out.symm, (drew_below (H1.out.trans (H2.out.mono H1.out.size)) _).trans (H3.out.mono (H1.out.trans (H2.out.mono H1.out.size)).size)⟩
    · have hc := Lib.hid (K.out.2.2 hxy)
      have hy : y = !x := by revert hxy; cases x <;> cases y <;> simp
      subst hy
      clear hxy
      cases x
      all_goals
        go_enter Try.func31, Try.ntmps31
        go_wp2_with (first
          | (go_at_call 19; with_reducible refine L1.out.mono ?_; rintro e w1 hL; unfold LPost at hL; obtain ⟨g1, c1, rfl, n1, m1, b1, k1, h1⟩ := hL; have B1 := Lib.hid b1; have H1 := Lib.hid h1; clear b1 h1)
          | (go_at_call 19; with_reducible refine (L2.out _).mono ?_; rintro e w2 hL; unfold LPost at hL; obtain ⟨g2, c2, rfl, n2, m2, b2, k2, h2⟩ := hL; have B2 := Lib.hid b2; have H2 := Lib.hid h2; have B1' := Lib.hid (B1.out.below h2 B1.out.lt); clear b2 h2))
        have q1 := B1'.out.2 31 (by decide)
        have q2 := B2.out.2 31 (by decide)
        rw [← EX.out] at q1
        rw [← EY.out] at q2
        simp only [Bool.not_false, Bool.not_true] at q2
        go_quiet (fail)
        go_wp2
        go_ret
        exact ⟨ret_bool hc.out.symm, drew_below (H1.out.trans (H2.out.mono H1.out.size)) _⟩
set_option maxHeartbeats 4000000 in
set_option maxRecDepth 100000 in
theorem Less_64 (a b : Nat) (s : Bool) (w : World) (ha : a < 18446744073709551616) (hb : b < 18446744073709551616) :
    Calls Try.prog 31 #[.int .i64 64, .int .u64 a, .int .u64 b, .bool s] w fun e w' => e = .returned (.bool (ls 64 a b s)) ∧ Below w.heap.size w w' := by
  have L1 : Hid (Calls Try.prog 19 #[.int .i64 64, .int .u64 a] w (LPost w.heap.size 64 (bt a) w)) := Lib.hid (List_any 64 a w (by decide) (by decide) ha)
  have L2 : Hid (∀ w1 : World, Calls Try.prog 19 #[.int .i64 64, .int .u64 b] w1 (LPost w1.heap.size 64 (bt b) w1)) := Lib.hid (fun w1 => List_any 64 b w1 (by decide) (by decide) hb)
  have K := Lib.hid (ls_bits64 a b ha hb)
  obtain ⟨x, ex⟩ : ∃ x, x = bt a 63 := ⟨_, rfl⟩
  obtain ⟨y, ey⟩ : ∃ x, x = bt b 63 := ⟨_, rfl⟩
  rw [← ex, ← ey] at K
  have EX := Lib.hid ex
  have EY := Lib.hid ey
  clear ha hb ex ey
  cases s
  · go_enter Try.func31, Try.ntmps31
    go_wp2_with (first
      | (go_at_call 19; with_reducible refine L1.out.mono ?_; rintro e w1 hL; unfold LPost at hL; obtain ⟨g1, c1, rfl, n1, m1, b1, k1, h1⟩ := hL; have B1 := Lib.hid b1; have H1 := Lib.hid h1; clear b1 h1)
      | (go_at_call 19; with_reducible refine (L2.out _).mono ?_; rintro e w2 hL; unfold LPost at hL; obtain ⟨g2, c2, rfl, n2, m2, b2, k2, h2⟩ := hL; have B2 := Lib.hid b2; have H2 := Lib.hid h2; have B1' := Lib.hid (B1.out.below h2 B1.out.lt); clear b2 h2))
    go_quiet (fail)
    go_wp2_with (go_at_call 36; refine (less_any g1 c1 g2 c2 64 (bt a) (bt b) _ (by decide) n1 n2 m1 m2 (B1'.out.drewN _) (B2.out.drewN _)).mono ?_; rintro e w3 ⟨rfl, hb3⟩; have H3 := Lib.hid hb3; clear hb3)
    go_ret
    exact ⟨ret_bool K.out.1.symm, (drew_below (H1.out.trans (H2.out.mono H1.out.size)) _).trans (H3.out.mono (H1.out.trans (H2.out.mono H1.out.size)).size)⟩
  · by_cases hxy : x = y
    · have hc := Lib.hid (K.out.2.1 hxy)
      subst hxy
      have hx2 : (x != x) = false := by cases x <;> rfl
      go_enter Try.func31, Try.ntmps31
      go_wp2_with (first
        | (go_at_call 19; with_reducible refine L1.out.mono ?_; rintro e w1 hL; unfold LPost at hL; obtain ⟨g1, c1, rfl, n1, m1, b1, k1, h1⟩ := hL; have B1 := Lib.hid b1; have H1 := Lib.hid h1; clear b1 h1)
        | (go_at_call 19; with_reducible refine (L2.out _).mono ?_; rintro e w2 hL; unfold LPost at hL; obtain ⟨g2, c2, rfl, n2, m2, b2, k2, h2⟩ := hL; have B2 := Lib.hid b2; have H2 := Lib.hid h2; have B1' := Lib.hid (B1.out.below h2 B1.out.lt); clear b2 h2))
      have q1 := B1'.out.2 63 (by decide)
      have q2 := B2.out.2 63 (by decide)
      rw [← EX.out] at q1
      rw [← EY.out] at q2
      go_quiet (fail)
      go_wp2_with (go_at_call 36; refine (less_any g1 c1 g2 c2 64 (bt a) (bt b) _ (by decide) n1 n2 m1 m2 (B1'.out.drewN _) (B2.out.drewN _)).mono ?_; rintro e w3 ⟨rfl, hb3⟩; have H3 := Lib.hid hb3; clear hb3)
      go_ret
      exact ⟨ret_bool hc.out.symm, (drew_below (H1.out.trans (H2.out.mono H1.out.size)) _).trans (H3.out.mono (H1.out.trans (H2.out.mono H1.out.size)).size)⟩
    · have hc := Lib.hid (K.out.2.2 hxy)
      have hy : y = !x := by revert hxy; cases x <;> cases y <;> simp
      subst hy
      clear hxy
      cases x
      all_goals
        go_enter Try.func31, Try.ntmps31
        go_wp2_with (first
          | (go_at_call 19; with_reducible refine L1.out.mono ?_; rintro e w1 hL; unfold LPost at hL; obtain ⟨g1, c1, rfl, n1, m1, b1, k1, h1⟩ := hL; have B1 := Lib.hid b1; have H1 := Lib.hid h1; clear b1 h1)
          | (go_at_call 19; with_reducible refine (L2.out _).mono ?_; rintro e w2 hL; unfold LPost at hL; obtain ⟨g2, c2, rfl, n2, m2, b2, k2, h2⟩ := hL; have B2 := Lib.hid b2; have H2 := Lib.hid h2; have B1' := Lib.hid (B1.out.below h2 B1.out.lt); clear b2 h2))
        have q1 := B1'.out.2 63 (by decide)
        have q2 := B2.out.2 63 (by decide)
        rw [← EX.out] at q1
        rw [← EY.out] at q2
        simp only [Bool.not_false, Bool.not_true] at q2
        go_quiet (fail)
        go_wp2
        go_ret
        exact ⟨ret_bool hc.out.symm, drew_below (H1.out.trans (H2.out.mono H1.out.size)) _⟩
theorem Less_any (n : Int) (a b : Nat) (s : Bool) (w : World) (h : Wd.ok n) (ha : a < 18446744073709551616) (hb : b < 18446744073709551616) :
    Calls Try.prog 31 #[.int .i64 n, .int .u64 a, .int .u64 b, .bool s] w fun e w' => e = .returned (.bool (ls n a b s)) ∧ Below w.heap.size w w' := by
  rcases h with rfl | rfl
  · exact Less_32 a b s w ha hb
  · exact Less_64 a b s w ha hb
/-- the word of a word's bits -/
theorem List_int (n : Int) (a : Nat) (w : World) (h : Wd.ok n) (ha : a < 18446744073709551616) :
    Calls Try.prog 19 #[.int .i64 n, .int .u64 a] w (LPost w.heap.size n.toNat (bt a) w) := by
  rcases h with rfl | rfl
  · exact List_any 32 a w (by decide) (by decide) ha
  · exact List_any 64 a w (by decide) (by decide) ha
theorem vl_cut (n : Int) (a : Nat) (h : Wd.ok n) (ha : a < 18446744073709551616) : vl (bt a) 0 n.toNat = Wd.cut n a := by
  rw [vl_bt, Nat.pow_zero, Nat.div_one, Wd.cut_mod h ha, Wd.md_pow h]
/-- what the document's Test answers -/
def rv (op : Int) (same ab ba : Bool) : Bool :=
  if op = 0 then same else if op = 1 then !same else if op = 2 then ab else if op = 3 then ab else if op = 4 then ba else if op = 5 then ba
  else if op = 6 then !ba else if op = 7 then !ba else if op = 8 then !ab else !ab
def rt (op n : Int) (a b : Nat) : Bool := rv op (decide (Wd.cut n a = Wd.cut n b)) (ls n a b (op % 2 == 0)) (ls n b a (op % 2 == 0))
theorem rt_is (op n : Int) (a b : Nat) (h0 : 0 ≤ op) (h9 : op ≤ 9) : (rt op n a b).toNat = Wd.tz op n a b := by
  unfold Wd.tz
  congr 1
  rcases (by omega : op = 0 ∨ op = 1 ∨ op = 2 ∨ op = 3 ∨ op = 4 ∨ op = 5 ∨ op = 6 ∨ op = 7 ∨ op = 8 ∨ op = 9) with rfl | rfl | rfl | rfl | rfl | rfl | rfl | rfl | rfl | rfl
  all_goals
    first
      | (simp [rt, rv, Wd.tst, ls]; done)
      | (simp only [rt, rv, Wd.tst, ls]; rw [Bool.eq_iff_iff]; simp; done)
      | (simp only [rt, rv, Wd.tst, ls]; rw [Bool.eq_iff_iff]; simp; omega)
end Go.Proofs.Ytmbnaejoiglckaa
