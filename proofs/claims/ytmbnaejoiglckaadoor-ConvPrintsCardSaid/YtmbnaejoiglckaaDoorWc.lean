/-
  word.Binary, word.Test, and the given example (awake): what they answer, for every input.
-/
import Derived.Test.YtmbnaejoiglckaaDoorWb
namespace Go.Proofs.YtmbnaejoiglckaaDoor
open Go.RowKit
set_option linter.unusedVariables false
theorem ret_three {k j i : IntKind} {a b c d f g : Int} (h : a = b) (h' : c = d) (h'' : f = g) : Ending.returned (.tuple #[.int k a, .int j c, .int i f]) = .returned (.tuple #[.int k b, .int j d, .int i g]) := by rw [h, h', h'']
set_option maxHeartbeats 1000000 in
theorem Binary_ok (op n : Int) (a b : Nat) (w : World) (h : Wd.ok n) (h0 : 0 ≤ op) (h14 : op ≤ 14) (ha : a < 18446744073709551616) (hb : b < 18446744073709551616) :
    Calls Tryd.prog 17 #[.int .i64 op, .int .i64 n, .int .u64 a, .int .u64 b] w fun e w' =>
      e = .returned (.tuple #[.int .u64 ((Wd.bz op n a b : Nat) : Int), .int .i64 ((Wd.tr op n a b : Nat) : Int), .int .i64 0]) ∧ w = w' := by
  have HK := Lib.hid h
  have hx := Wd.cut_lt h ha
  have hy := Wd.cut_lt h hb
  have hbz : Wd.tr op n a b = 0 → Wd.bz op n a b = Wd.bin op n (Wd.cut n a) (Wd.cut n b) := fun e => if_pos e
  have hbz0 : Wd.tr op n a b ≠ 0 → Wd.bz op n a b = 0 := fun e => if_neg e
  have htr : Wd.tr op n a b = Wd.trap op n (Wd.cut n a) (Wd.cut n b) := rfl
  have hz : Wd.tr op n a b = 0 → 3 ≤ op → op ≤ 6 → Wd.cut n b ≠ 0 := fun e o1 o2 hc => by
    rw [htr, Wd.trap, if_neg (by omega), if_pos hc] at e
    cases e
  obtain ⟨T, hT⟩ : ∃ T, T = Wd.tr op n a b := ⟨_, rfl⟩
  rw [← hT] at hbz hbz0 htr hz ⊢
  have HT := Lib.hid htr
  have HA := Lib.hid ha
  have HB := Lib.hid hb
  have HX := Lib.hid hx
  have HY := Lib.hid hy
  have C1 := Lib.hid (Cut_any n a w)
  have C2 := Lib.hid (Cut_any n b w)
  obtain ⟨x, ex⟩ : ∃ x, x = Wd.cut n a := ⟨_, rfl⟩
  obtain ⟨y, ey⟩ : ∃ y, y = Wd.cut n b := ⟨_, rfl⟩
  rw [← ex] at C1 HX hbz HT
  rw [← ey] at C2 HY hbz HT hz
  have EX := Lib.hid ex
  have EY := Lib.hid ey
  have TR := Lib.hid (traps_any op n x y w HK.out HX.out HY.out)
  rw [← HT.out] at TR
  clear h ha hb hx hy hT htr ex ey
  by_cases t : T = 0
  · subst t
    have hz' := hz rfl
    have hbz' := hbz rfl
    have BI := Lib.hid (binary_any op n x y w HK.out h0 h14 HX.out HY.out hz')
    have HBZ := Lib.hid hbz'
    clear hz hbz hbz0 hz' hbz'
    go_enter Tryd.func17, Tryd.ntmps17
    go_wp2_with (first
      | (go_at_call 33; refine (known_yes op 15 n _ HK.out h0 (by omega)).mono ?_; rintro e w1 ⟨rfl, rfl⟩)
      | (go_at_call 39; refine TR.out.mono ?_; rintro e w1 ⟨rfl, rfl⟩)
      | (go_at_call 40; refine BI.out.mono ?_; rintro e w1 ⟨⟨r, hr, hc, rfl⟩, rfl⟩; have HC := Lib.hid hc; have HR := Lib.hid hr; clear hc hr)
      | (go_at_call 12; refine (Cut_any n _ _).mono ?_; (first | rw [← EX.out] | rw [← EY.out] | rw [HC.out]); rintro e w1 ⟨rfl, rfl⟩))
    go_ret3
    exact ⟨ret_three (by rw [HBZ.out]) rfl rfl, rfl⟩
  · have ht : ((T : Int) != 0) = true := by simp [t]
    have HBZ := Lib.hid (hbz0 t)
    clear hz hbz hbz0 t
    go_enter Tryd.func17, Tryd.ntmps17
    go_wp2_with (first
      | (go_at_call 33; refine (known_yes op 15 n _ HK.out h0 (by omega)).mono ?_; rintro e w1 ⟨rfl, rfl⟩)
      | (go_at_call 39; refine TR.out.mono ?_; rintro e w1 ⟨rfl, rfl⟩)
      | (go_at_call 12; refine (Cut_any n _ _).mono ?_; (first | rw [← EX.out] | rw [← EY.out]); rintro e w1 ⟨rfl, rfl⟩))
    go_ret3
    exact ⟨ret_three (by rw [HBZ.out]; rfl) rfl rfl, rfl⟩
theorem ret_pair {k j : IntKind} {a b c d : Int} (h : a = b) (h' : c = d) : Ending.returned (.tuple #[.int k a, .int j c]) = .returned (.tuple #[.int k b, .int j d]) := by rw [h, h']
theorem Binary_bad (op n : Int) (a b : Nat) (w : World) (h : ¬ (Wd.ok n ∧ 0 ≤ op ∧ op < 15)) :
    Calls Tryd.prog 17 #[.int .i64 op, .int .i64 n, .int .u64 a, .int .u64 b] w fun e w' =>
      e = .returned (.tuple #[.int .u64 0, .int .i64 0, .int .i64 1]) ∧ w = w' := by
  have K := Lib.hid (known_no op 15 n w h)
  clear h
  go_enter Tryd.func17, Tryd.ntmps17
  go_wp2_with (go_at_call 33; refine K.out.mono ?_; rintro e w1 ⟨rfl, rfl⟩)
  go_ret3
  exact ⟨rfl, rfl⟩
theorem right_yes (n : Int) (w : World) (h : Wd.ok n) :
    Calls Tryd.prog 14 #[.int .i64 n] w fun e w' => e = .returned (.bool true) ∧ w = w' := by
  rcases h with rfl | rfl
  all_goals
    go_enter Tryd.func14, Tryd.ntmps14
    go_wp2
    go_ret
    exact ⟨rfl, rfl⟩
theorem right_no (n : Int) (w : World) (h : ¬ Wd.ok n) :
    Calls Tryd.prog 14 #[.int .i64 n] w fun e w' => e = .returned (.bool false) ∧ w = w' := by
  have h1 : (n == 32) = false := by simp; intro e; exact h (.inl e)
  have h2 : (n == 64) = false := by simp; intro e; exact h (.inr e)
  clear h
  go_enter Tryd.func14, Tryd.ntmps14
  go_wp2
  go_ret
  exact ⟨rfl, rfl⟩
theorem awake_any (w : World) :
    Calls Tryd.prog 15 #[] w fun e w' => e = .returned (.bool true) ∧ w = w' := by
  have B : Calls Tryd.prog 17 #[.int .i64 13, .int .i64 32, .int .u64 2147483648, .int .u64 1] w fun e w' =>
      e = .returned (.tuple #[.int .u64 1, .int .i64 0, .int .i64 0]) ∧ w = w' :=
    Binary_ok 13 32 2147483648 1 w (.inl rfl) (by decide) (by decide) (by decide) (by decide)
  have S : Calls Tryd.prog 13 #[.int .i64 32, .int .u64 2147483648] w fun e w' => e = .returned (.int .i64 (-2147483648)) ∧ w = w' :=
    Sign_any 32 2147483648 w (by decide)
  have HB := Lib.hid B
  have HS := Lib.hid S
  clear B S
  go_enter Tryd.func15, Tryd.ntmps15
  go_wp2_with (first
      | (go_at_call 17; refine HB.out.mono ?_; rintro e w1 ⟨rfl, rfl⟩)
      | (go_at_call 13; refine HS.out.mono ?_; rintro e w1 ⟨rfl, rfl⟩))
  go_ret
  exact ⟨rfl, rfl⟩
end Go.Proofs.YtmbnaejoiglckaaDoor
