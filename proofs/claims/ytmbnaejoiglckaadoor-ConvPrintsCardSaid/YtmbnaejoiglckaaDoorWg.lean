/-
  math/bits.TrailingZeros64, where its table lies as the program's text lays it; word.Unary.
-/
import Derived.Test.YtmbnaejoiglckaaDoorWf
import Derived.Test.YtmbnaejoiglckaaDoorMc
import Derived.Deep.Cut
import Derived.Below
namespace Go.Proofs.YtmbnaejoiglckaaDoor
open Go.RowKit
set_option linter.unusedVariables false
def dB : List Nat := [0, 1, 56, 2, 57, 49, 28, 3, 61, 58, 42, 50, 38, 29, 17, 4, 62, 47, 59, 36, 45, 43, 51, 22, 53, 39, 33, 30, 24, 18, 12, 5, 63, 55, 48, 27, 60, 41, 37, 16, 46, 35, 44, 21, 52, 32, 23, 11, 54, 26, 40, 15, 34, 20, 31, 10, 25, 14, 19, 9, 13, 8, 7, 6]
/-- the table's cells -/
def Tb (w : World) : Prop := ∀ i : Nat, i < 64 → w.cell? ⟨0, i, none⟩ = some (.int .u8 ((dB.getD i 0 : Nat) : Int))
def dBi (t : Nat) : Nat := 2 ^ t * 285870213051353865 % 18446744073709551616 / 288230376151711744
theorem dB_at : ∀ t : Fin 64, dB.getD (dBi t.val) 0 = t.val ∧ dBi t.val < 64 := by decide +kernel
set_option maxHeartbeats 1000000 in
set_option maxRecDepth 100000 in
theorem Tz_any (x : Nat) (w : World) (h : x < 18446744073709551616) (hT : Tb w) :
    Calls Tryd.prog 35 #[.int .u64 x] w fun e w' => e = .returned (.int .i64 (Wd.low 64 x : Nat)) ∧ w = w' := by
  by_cases h0 : x = 0
  · subst h0
    go_enter Tryd.func35, Tryd.ntmps35
    go_wp2
    go_ret
    exact ⟨ret_int (by rw [Wd.low_zero]; rfl), rfl⟩
  · obtain ⟨ht, q, hq⟩ := Wd.low_spec 64 x h (by omega)
    obtain ⟨t, et⟩ : ∃ t, t = Wd.low 64 x := ⟨_, rfl⟩
    rw [← et] at ht hq ⊢
    have hl := Wd.low_and t q ht (by rw [← hq]; exact h)
    rw [← hq] at hl
    obtain ⟨d1, d2⟩ := dB_at ⟨t, ht⟩
    simp only at d1 d2
    have hc := hT (dBi t) d2
    rw [d1] at hc
    have hn : IntKind.u64.wrap (-(x : Int)) = ((2 ^ 64 - x : Nat) : Int) := by rw [IntKind.wrap_u64]; omega
    have e1 : bits BinOp.and IntKind.u64 (x : Int) ((2 ^ 64 - x : Nat) : Int) = ((2 ^ t : Nat) : Int) := by
      rw [and_m x (2 ^ 64 - x) h (by omega), hl]
    obtain ⟨p, hp⟩ : ∃ p, p = 2 ^ t := ⟨_, rfl⟩
    rw [← hp] at e1
    have e2 : IntKind.u64.wrap ((p : Int) * 285870213051353865) / 288230376151711744 = ((dBi t : Nat) : Int) := by
      rw [IntKind.wrap_u64, hp]; unfold dBi; simp
    obtain ⟨i, hi⟩ : ∃ i, i = dBi t := ⟨_, rfl⟩
    rw [← hi] at e2 hc d2
    have hx0 : ((x : Int) == 0) = false := by simp [h0]
    obtain ⟨y, hy⟩ : ∃ y, y = 2 ^ 64 - x := ⟨_, rfl⟩
    rw [← hy] at hn e1
    clear hl d1 hp hq hT et hi hy h0
    go_enter Tryd.func35, Tryd.ntmps35
    go_wp2
    go_ret
    exact ⟨rfl, rfl⟩
set_option maxHeartbeats 400000 in
set_option maxRecDepth 100000 in
theorem U32_0_0 (op n : Int) (a : Nat) (w : World) (h : Wd.ok n) (h0 : 0 ≤ op) (h3 : op ≤ 3) (hn : n = 32) (hop : op = 0) (hcc : Wd.cut n a = 0) (ha : a < 18446744073709551616) (hT : Tb w) :
    Calls Tryd.prog 11 #[.int .i64 op, .int .i64 n, .int .u64 a] w fun e w' =>
      e = .returned (.tuple #[.int .u64 ((uz op n a : Nat) : Int), .int .i64 0]) ∧ Below w.heap.size w w' := by
  have hc := Wd.cut_lt h ha
  have hl : Lib.bitLen (Wd.cut n a) ≤ n.toNat := Lib.bitLen_le _ _ (by rcases h with rfl | rfl <;> decide) (by rw [← Wd.md_pow h]; exact hc)
  have hx := Nat.lt_of_lt_of_le hc (Wd.md_le h)
  have K := Lib.hid (known_yes op 4 n w h h0 (by omega))
  have C := Lib.hid (Cut_any n a w)
  have U : Hid (uz op n a = if op = 0 then n.toNat - Lib.bitLen (Wd.cut n a) else if op = 1 then min (Wd.low 64 (Wd.cut n a)) n.toNat
  else if op = 2 then Wd.pop 64 (Wd.cut n a) else if Wd.cut n a = 0 then 1 else 0) := Lib.hid rfl
  obtain ⟨x, ex⟩ : ∃ x, x = Wd.cut n a := ⟨_, rfl⟩
  rw [← ex] at hl hx C U hcc
  have L := Lib.hid (Lz_any x w hx)
  have Z := Lib.hid (Tz_any x w hx hT)
  have O := Lib.hid (Ones_any x w hx)
  have lz : Wd.low 64 x ≤ 64 := by
    by_cases hz : x = 0
    · rw [hz, Wd.low_zero]; omega
    · have := (Wd.low_spec 64 x hx (by omega)).1; omega
  have lo := Wd.pop_le 64 x
  obtain ⟨l, el⟩ : ∃ l, l = Lib.bitLen x := ⟨_, rfl⟩
  obtain ⟨z, ez⟩ : ∃ z, z = Wd.low 64 x := ⟨_, rfl⟩
  obtain ⟨o, eo⟩ : ∃ o, o = Wd.pop 64 x := ⟨_, rfl⟩
  rw [← el] at hl L U
  rw [← ez] at lz Z U
  rw [← eo] at lo O U
  have HX := Lib.hid hx
  have HZ0 : Hid (x = 0 → z = 64) := Lib.hid (fun e => by rw [ez, e, Wd.low_zero])
  have HCC := Lib.hid hcc
  clear hcc hc hx ex el ez eo hT ha
  subst hn
  subst hop
  simp only [Int.reduceToNat] at hl
  have hx2 := HCC.out
  have hx1 : ((x : Int) == 0) = true := by simp [hx2]
  have hz := HZ0.out hx2
  have HX2 := Lib.hid hx2
  clear hx2 h0 h3 HCC HZ0 h
  go_enter Tryd.func11, Tryd.ntmps11
  go_wp2_with (first
    | (go_at_call 33; refine K.out.mono ?_; rintro e w1 ⟨rfl, rfl⟩)
    | (go_at_call 12; refine C.out.mono ?_; rintro e w1 ⟨rfl, rfl⟩)
    | (go_at_call 34; refine L.out.mono ?_; rintro e w1 ⟨rfl, rfl⟩)
    | (go_at_call 35; refine Z.out.mono ?_; rintro e w1 ⟨rfl, rfl⟩)
    | (go_at_call 36; refine O.out.mono ?_; rintro e w1 ⟨rfl, rfl⟩)
    | (go_at_call 37; refine (truth_any _ _).mono ?_; rintro e w1 ⟨rfl, rfl⟩))
  go_ret2
  refine ⟨?_, (Below.refl _ _).alloc (Nat.le_refl _) _⟩
  refine ret_pair ?_ rfl
  have U := U.out
  have HX2 := HX2.out
  first | rw [if_pos HX2] at U | rw [if_neg HX2] at U
  simp at U
  first
    | (rw [U]; done)
    | (rw [U]; omega)
    | (rw [U]; simp; done)
set_option maxHeartbeats 400000 in
set_option maxRecDepth 100000 in
theorem U32_0_1 (op n : Int) (a : Nat) (w : World) (h : Wd.ok n) (h0 : 0 ≤ op) (h3 : op ≤ 3) (hn : n = 32) (hop : op = 1) (hcc : Wd.cut n a = 0) (ha : a < 18446744073709551616) (hT : Tb w) :
    Calls Tryd.prog 11 #[.int .i64 op, .int .i64 n, .int .u64 a] w fun e w' =>
      e = .returned (.tuple #[.int .u64 ((uz op n a : Nat) : Int), .int .i64 0]) ∧ Below w.heap.size w w' := by
  have hc := Wd.cut_lt h ha
  have hl : Lib.bitLen (Wd.cut n a) ≤ n.toNat := Lib.bitLen_le _ _ (by rcases h with rfl | rfl <;> decide) (by rw [← Wd.md_pow h]; exact hc)
  have hx := Nat.lt_of_lt_of_le hc (Wd.md_le h)
  have K := Lib.hid (known_yes op 4 n w h h0 (by omega))
  have C := Lib.hid (Cut_any n a w)
  have U : Hid (uz op n a = if op = 0 then n.toNat - Lib.bitLen (Wd.cut n a) else if op = 1 then min (Wd.low 64 (Wd.cut n a)) n.toNat
  else if op = 2 then Wd.pop 64 (Wd.cut n a) else if Wd.cut n a = 0 then 1 else 0) := Lib.hid rfl
  obtain ⟨x, ex⟩ : ∃ x, x = Wd.cut n a := ⟨_, rfl⟩
  rw [← ex] at hl hx C U hcc
  have L := Lib.hid (Lz_any x w hx)
  have Z := Lib.hid (Tz_any x w hx hT)
  have O := Lib.hid (Ones_any x w hx)
  have lz : Wd.low 64 x ≤ 64 := by
    by_cases hz : x = 0
    · rw [hz, Wd.low_zero]; omega
    · have := (Wd.low_spec 64 x hx (by omega)).1; omega
  have lo := Wd.pop_le 64 x
  obtain ⟨l, el⟩ : ∃ l, l = Lib.bitLen x := ⟨_, rfl⟩
  obtain ⟨z, ez⟩ : ∃ z, z = Wd.low 64 x := ⟨_, rfl⟩
  obtain ⟨o, eo⟩ : ∃ o, o = Wd.pop 64 x := ⟨_, rfl⟩
  rw [← el] at hl L U
  rw [← ez] at lz Z U
  rw [← eo] at lo O U
  have HX := Lib.hid hx
  have HZ0 : Hid (x = 0 → z = 64) := Lib.hid (fun e => by rw [ez, e, Wd.low_zero])
  have HCC := Lib.hid hcc
  clear hcc hc hx ex el ez eo hT ha
  subst hn
  subst hop
  simp only [Int.reduceToNat] at hl
  have hx2 := HCC.out
  have hx1 : ((x : Int) == 0) = true := by simp [hx2]
  have hz := HZ0.out hx2
  have HX2 := Lib.hid hx2
  clear hx2 h0 h3 HCC HZ0 h
  go_enter Tryd.func11, Tryd.ntmps11
  go_wp2_with (first
    | (go_at_call 33; refine K.out.mono ?_; rintro e w1 ⟨rfl, rfl⟩)
    | (go_at_call 12; refine C.out.mono ?_; rintro e w1 ⟨rfl, rfl⟩)
    | (go_at_call 34; refine L.out.mono ?_; rintro e w1 ⟨rfl, rfl⟩)
    | (go_at_call 35; refine Z.out.mono ?_; rintro e w1 ⟨rfl, rfl⟩)
    | (go_at_call 36; refine O.out.mono ?_; rintro e w1 ⟨rfl, rfl⟩)
    | (go_at_call 37; refine (truth_any _ _).mono ?_; rintro e w1 ⟨rfl, rfl⟩))
  go_ret2
  refine ⟨?_, (Below.refl _ _).alloc (Nat.le_refl _) _⟩
  refine ret_pair ?_ rfl
  have U := U.out
  have HX2 := HX2.out
  first | rw [if_pos HX2] at U | rw [if_neg HX2] at U
  simp at U
  first
    | (rw [U]; done)
    | (rw [U]; omega)
    | (rw [U]; simp; done)
set_option maxHeartbeats 400000 in
set_option maxRecDepth 100000 in
theorem U32_0_2 (op n : Int) (a : Nat) (w : World) (h : Wd.ok n) (h0 : 0 ≤ op) (h3 : op ≤ 3) (hn : n = 32) (hop : op = 2) (hcc : Wd.cut n a = 0) (ha : a < 18446744073709551616) (hT : Tb w) :
    Calls Tryd.prog 11 #[.int .i64 op, .int .i64 n, .int .u64 a] w fun e w' =>
      e = .returned (.tuple #[.int .u64 ((uz op n a : Nat) : Int), .int .i64 0]) ∧ Below w.heap.size w w' := by
  have hc := Wd.cut_lt h ha
  have hl : Lib.bitLen (Wd.cut n a) ≤ n.toNat := Lib.bitLen_le _ _ (by rcases h with rfl | rfl <;> decide) (by rw [← Wd.md_pow h]; exact hc)
  have hx := Nat.lt_of_lt_of_le hc (Wd.md_le h)
  have K := Lib.hid (known_yes op 4 n w h h0 (by omega))
  have C := Lib.hid (Cut_any n a w)
  have U : Hid (uz op n a = if op = 0 then n.toNat - Lib.bitLen (Wd.cut n a) else if op = 1 then min (Wd.low 64 (Wd.cut n a)) n.toNat
  else if op = 2 then Wd.pop 64 (Wd.cut n a) else if Wd.cut n a = 0 then 1 else 0) := Lib.hid rfl
  obtain ⟨x, ex⟩ : ∃ x, x = Wd.cut n a := ⟨_, rfl⟩
  rw [← ex] at hl hx C U hcc
  have L := Lib.hid (Lz_any x w hx)
  have Z := Lib.hid (Tz_any x w hx hT)
  have O := Lib.hid (Ones_any x w hx)
  have lz : Wd.low 64 x ≤ 64 := by
    by_cases hz : x = 0
    · rw [hz, Wd.low_zero]; omega
    · have := (Wd.low_spec 64 x hx (by omega)).1; omega
  have lo := Wd.pop_le 64 x
  obtain ⟨l, el⟩ : ∃ l, l = Lib.bitLen x := ⟨_, rfl⟩
  obtain ⟨z, ez⟩ : ∃ z, z = Wd.low 64 x := ⟨_, rfl⟩
  obtain ⟨o, eo⟩ : ∃ o, o = Wd.pop 64 x := ⟨_, rfl⟩
  rw [← el] at hl L U
  rw [← ez] at lz Z U
  rw [← eo] at lo O U
  have HX := Lib.hid hx
  have HZ0 : Hid (x = 0 → z = 64) := Lib.hid (fun e => by rw [ez, e, Wd.low_zero])
  have HCC := Lib.hid hcc
  clear hcc hc hx ex el ez eo hT ha
  subst hn
  subst hop
  simp only [Int.reduceToNat] at hl
  have hx2 := HCC.out
  have hx1 : ((x : Int) == 0) = true := by simp [hx2]
  have hz := HZ0.out hx2
  have HX2 := Lib.hid hx2
  clear hx2 h0 h3 HCC HZ0 h
  go_enter Tryd.func11, Tryd.ntmps11
  go_wp2_with (first
    | (go_at_call 33; refine K.out.mono ?_; rintro e w1 ⟨rfl, rfl⟩)
    | (go_at_call 12; refine C.out.mono ?_; rintro e w1 ⟨rfl, rfl⟩)
    | (go_at_call 34; refine L.out.mono ?_; rintro e w1 ⟨rfl, rfl⟩)
    | (go_at_call 35; refine Z.out.mono ?_; rintro e w1 ⟨rfl, rfl⟩)
    | (go_at_call 36; refine O.out.mono ?_; rintro e w1 ⟨rfl, rfl⟩)
    | (go_at_call 37; refine (truth_any _ _).mono ?_; rintro e w1 ⟨rfl, rfl⟩))
  go_ret2
  refine ⟨?_, (Below.refl _ _).alloc (Nat.le_refl _) _⟩
  refine ret_pair ?_ rfl
  have U := U.out
  have HX2 := HX2.out
  first | rw [if_pos HX2] at U | rw [if_neg HX2] at U
  simp at U
  first
    | (rw [U]; done)
    | (rw [U]; omega)
    | (rw [U]; simp; done)
set_option maxHeartbeats 400000 in
set_option maxRecDepth 100000 in
theorem U32_0_3 (op n : Int) (a : Nat) (w : World) (h : Wd.ok n) (h0 : 0 ≤ op) (h3 : op ≤ 3) (hn : n = 32) (hop : op = 3) (hcc : Wd.cut n a = 0) (ha : a < 18446744073709551616) (hT : Tb w) :
    Calls Tryd.prog 11 #[.int .i64 op, .int .i64 n, .int .u64 a] w fun e w' =>
      e = .returned (.tuple #[.int .u64 ((uz op n a : Nat) : Int), .int .i64 0]) ∧ Below w.heap.size w w' := by
  have hc := Wd.cut_lt h ha
  have hl : Lib.bitLen (Wd.cut n a) ≤ n.toNat := Lib.bitLen_le _ _ (by rcases h with rfl | rfl <;> decide) (by rw [← Wd.md_pow h]; exact hc)
  have hx := Nat.lt_of_lt_of_le hc (Wd.md_le h)
  have K := Lib.hid (known_yes op 4 n w h h0 (by omega))
  have C := Lib.hid (Cut_any n a w)
  have U : Hid (uz op n a = if op = 0 then n.toNat - Lib.bitLen (Wd.cut n a) else if op = 1 then min (Wd.low 64 (Wd.cut n a)) n.toNat
  else if op = 2 then Wd.pop 64 (Wd.cut n a) else if Wd.cut n a = 0 then 1 else 0) := Lib.hid rfl
  obtain ⟨x, ex⟩ : ∃ x, x = Wd.cut n a := ⟨_, rfl⟩
  rw [← ex] at hl hx C U hcc
  have L := Lib.hid (Lz_any x w hx)
  have Z := Lib.hid (Tz_any x w hx hT)
  have O := Lib.hid (Ones_any x w hx)
  have lz : Wd.low 64 x ≤ 64 := by
    by_cases hz : x = 0
    · rw [hz, Wd.low_zero]; omega
    · have := (Wd.low_spec 64 x hx (by omega)).1; omega
  have lo := Wd.pop_le 64 x
  obtain ⟨l, el⟩ : ∃ l, l = Lib.bitLen x := ⟨_, rfl⟩
  obtain ⟨z, ez⟩ : ∃ z, z = Wd.low 64 x := ⟨_, rfl⟩
  obtain ⟨o, eo⟩ : ∃ o, o = Wd.pop 64 x := ⟨_, rfl⟩
  rw [← el] at hl L U
  rw [← ez] at lz Z U
  rw [← eo] at lo O U
  have HX := Lib.hid hx
  have HZ0 : Hid (x = 0 → z = 64) := Lib.hid (fun e => by rw [ez, e, Wd.low_zero])
  have HCC := Lib.hid hcc
  clear hcc hc hx ex el ez eo hT ha
  subst hn
  subst hop
  simp only [Int.reduceToNat] at hl
  have hx2 := HCC.out
  have hx1 : ((x : Int) == 0) = true := by simp [hx2]
  have hz := HZ0.out hx2
  have HX2 := Lib.hid hx2
  clear hx2 h0 h3 HCC HZ0 h
  go_enter Tryd.func11, Tryd.ntmps11
  go_wp2_with (first
    | (go_at_call 33; refine K.out.mono ?_; rintro e w1 ⟨rfl, rfl⟩)
    | (go_at_call 12; refine C.out.mono ?_; rintro e w1 ⟨rfl, rfl⟩)
    | (go_at_call 34; refine L.out.mono ?_; rintro e w1 ⟨rfl, rfl⟩)
    | (go_at_call 35; refine Z.out.mono ?_; rintro e w1 ⟨rfl, rfl⟩)
    | (go_at_call 36; refine O.out.mono ?_; rintro e w1 ⟨rfl, rfl⟩)
    | (go_at_call 37; refine (truth_any _ _).mono ?_; rintro e w1 ⟨rfl, rfl⟩))
  go_ret2
  refine ⟨?_, (Below.refl _ _).alloc (Nat.le_refl _) _⟩
  refine ret_pair ?_ rfl
  have U := U.out
  have HX2 := HX2.out
  first | rw [if_pos HX2] at U | rw [if_neg HX2] at U
  simp at U
  first
    | (rw [U]; done)
    | (rw [U]; omega)
    | (rw [U]; simp; done)
set_option maxHeartbeats 400000 in
set_option maxRecDepth 100000 in
theorem U32_1_0 (op n : Int) (a : Nat) (w : World) (h : Wd.ok n) (h0 : 0 ≤ op) (h3 : op ≤ 3) (hn : n = 32) (hop : op = 0) (hcc : Wd.cut n a ≠ 0 ∧ Wd.low 64 (Wd.cut n a) ≤ 32) (ha : a < 18446744073709551616) (hT : Tb w) :
    Calls Tryd.prog 11 #[.int .i64 op, .int .i64 n, .int .u64 a] w fun e w' =>
      e = .returned (.tuple #[.int .u64 ((uz op n a : Nat) : Int), .int .i64 0]) ∧ Below w.heap.size w w' := by
  have hc := Wd.cut_lt h ha
  have hl : Lib.bitLen (Wd.cut n a) ≤ n.toNat := Lib.bitLen_le _ _ (by rcases h with rfl | rfl <;> decide) (by rw [← Wd.md_pow h]; exact hc)
  have hx := Nat.lt_of_lt_of_le hc (Wd.md_le h)
  have K := Lib.hid (known_yes op 4 n w h h0 (by omega))
  have C := Lib.hid (Cut_any n a w)
  have U : Hid (uz op n a = if op = 0 then n.toNat - Lib.bitLen (Wd.cut n a) else if op = 1 then min (Wd.low 64 (Wd.cut n a)) n.toNat
  else if op = 2 then Wd.pop 64 (Wd.cut n a) else if Wd.cut n a = 0 then 1 else 0) := Lib.hid rfl
  obtain ⟨x, ex⟩ : ∃ x, x = Wd.cut n a := ⟨_, rfl⟩
  rw [← ex] at hl hx C U hcc
  have L := Lib.hid (Lz_any x w hx)
  have Z := Lib.hid (Tz_any x w hx hT)
  have O := Lib.hid (Ones_any x w hx)
  have lz : Wd.low 64 x ≤ 64 := by
    by_cases hz : x = 0
    · rw [hz, Wd.low_zero]; omega
    · have := (Wd.low_spec 64 x hx (by omega)).1; omega
  have lo := Wd.pop_le 64 x
  obtain ⟨l, el⟩ : ∃ l, l = Lib.bitLen x := ⟨_, rfl⟩
  obtain ⟨z, ez⟩ : ∃ z, z = Wd.low 64 x := ⟨_, rfl⟩
  obtain ⟨o, eo⟩ : ∃ o, o = Wd.pop 64 x := ⟨_, rfl⟩
  rw [← el] at hl L U
  rw [← ez] at lz Z U
  rw [← ez] at hcc
  rw [← eo] at lo O U
  have HX := Lib.hid hx
  have HZ0 : Hid (x = 0 → z = 64) := Lib.hid (fun e => by rw [ez, e, Wd.low_zero])
  have HCC := Lib.hid hcc
  clear hcc hc hx ex el ez eo hT ha
  subst hn
  subst hop
  simp only [Int.reduceToNat] at hl
  have hx2 := HCC.out.1
  have hx1 : ((x : Int) == 0) = false := by simp [hx2]
  have hz := HCC.out.2
  have HX2 := Lib.hid hx2
  clear hx2 h0 h3 HCC HZ0 h
  go_enter Tryd.func11, Tryd.ntmps11
  go_wp2_with (first
    | (go_at_call 33; refine K.out.mono ?_; rintro e w1 ⟨rfl, rfl⟩)
    | (go_at_call 12; refine C.out.mono ?_; rintro e w1 ⟨rfl, rfl⟩)
    | (go_at_call 34; refine L.out.mono ?_; rintro e w1 ⟨rfl, rfl⟩)
    | (go_at_call 35; refine Z.out.mono ?_; rintro e w1 ⟨rfl, rfl⟩)
    | (go_at_call 36; refine O.out.mono ?_; rintro e w1 ⟨rfl, rfl⟩)
    | (go_at_call 37; refine (truth_any _ _).mono ?_; rintro e w1 ⟨rfl, rfl⟩))
  go_ret2
  refine ⟨?_, (Below.refl _ _).alloc (Nat.le_refl _) _⟩
  refine ret_pair ?_ rfl
  have U := U.out
  have HX2 := HX2.out
  first | rw [if_pos HX2] at U | rw [if_neg HX2] at U
  simp at U
  first
    | (rw [U]; done)
    | (rw [U]; omega)
    | (rw [U]; simp; done)
set_option maxHeartbeats 400000 in
set_option maxRecDepth 100000 in
theorem U32_1_1 (op n : Int) (a : Nat) (w : World) (h : Wd.ok n) (h0 : 0 ≤ op) (h3 : op ≤ 3) (hn : n = 32) (hop : op = 1) (hcc : Wd.cut n a ≠ 0 ∧ Wd.low 64 (Wd.cut n a) ≤ 32) (ha : a < 18446744073709551616) (hT : Tb w) :
    Calls Tryd.prog 11 #[.int .i64 op, .int .i64 n, .int .u64 a] w fun e w' =>
      e = .returned (.tuple #[.int .u64 ((uz op n a : Nat) : Int), .int .i64 0]) ∧ Below w.heap.size w w' := by
  have hc := Wd.cut_lt h ha
  have hl : Lib.bitLen (Wd.cut n a) ≤ n.toNat := Lib.bitLen_le _ _ (by rcases h with rfl | rfl <;> decide) (by rw [← Wd.md_pow h]; exact hc)
  have hx := Nat.lt_of_lt_of_le hc (Wd.md_le h)
  have K := Lib.hid (known_yes op 4 n w h h0 (by omega))
  have C := Lib.hid (Cut_any n a w)
  have U : Hid (uz op n a = if op = 0 then n.toNat - Lib.bitLen (Wd.cut n a) else if op = 1 then min (Wd.low 64 (Wd.cut n a)) n.toNat
  else if op = 2 then Wd.pop 64 (Wd.cut n a) else if Wd.cut n a = 0 then 1 else 0) := Lib.hid rfl
  obtain ⟨x, ex⟩ : ∃ x, x = Wd.cut n a := ⟨_, rfl⟩
  rw [← ex] at hl hx C U hcc
  have L := Lib.hid (Lz_any x w hx)
  have Z := Lib.hid (Tz_any x w hx hT)
  have O := Lib.hid (Ones_any x w hx)
  have lz : Wd.low 64 x ≤ 64 := by
    by_cases hz : x = 0
    · rw [hz, Wd.low_zero]; omega
    · have := (Wd.low_spec 64 x hx (by omega)).1; omega
  have lo := Wd.pop_le 64 x
  obtain ⟨l, el⟩ : ∃ l, l = Lib.bitLen x := ⟨_, rfl⟩
  obtain ⟨z, ez⟩ : ∃ z, z = Wd.low 64 x := ⟨_, rfl⟩
  obtain ⟨o, eo⟩ : ∃ o, o = Wd.pop 64 x := ⟨_, rfl⟩
  rw [← el] at hl L U
  rw [← ez] at lz Z U
  rw [← ez] at hcc
  rw [← eo] at lo O U
  have HX := Lib.hid hx
  have HZ0 : Hid (x = 0 → z = 64) := Lib.hid (fun e => by rw [ez, e, Wd.low_zero])
  have HCC := Lib.hid hcc
  clear hcc hc hx ex el ez eo hT ha
  subst hn
  subst hop
  simp only [Int.reduceToNat] at hl
  have hx2 := HCC.out.1
  have hx1 : ((x : Int) == 0) = false := by simp [hx2]
  have hz := HCC.out.2
  have HX2 := Lib.hid hx2
  clear hx2 h0 h3 HCC HZ0 h
  go_enter Tryd.func11, Tryd.ntmps11
  go_wp2_with (first
    | (go_at_call 33; refine K.out.mono ?_; rintro e w1 ⟨rfl, rfl⟩)
    | (go_at_call 12; refine C.out.mono ?_; rintro e w1 ⟨rfl, rfl⟩)
    | (go_at_call 34; refine L.out.mono ?_; rintro e w1 ⟨rfl, rfl⟩)
    | (go_at_call 35; refine Z.out.mono ?_; rintro e w1 ⟨rfl, rfl⟩)
    | (go_at_call 36; refine O.out.mono ?_; rintro e w1 ⟨rfl, rfl⟩)
    | (go_at_call 37; refine (truth_any _ _).mono ?_; rintro e w1 ⟨rfl, rfl⟩))
  go_ret2
  refine ⟨?_, (Below.refl _ _).alloc (Nat.le_refl _) _⟩
  refine ret_pair ?_ rfl
  have U := U.out
  have HX2 := HX2.out
  first | rw [if_pos HX2] at U | rw [if_neg HX2] at U
  simp at U
  first
    | (rw [U]; done)
    | (rw [U]; omega)
    | (rw [U]; simp; done)
set_option maxHeartbeats 400000 in
set_option maxRecDepth 100000 in
theorem U32_1_2 (op n : Int) (a : Nat) (w : World) (h : Wd.ok n) (h0 : 0 ≤ op) (h3 : op ≤ 3) (hn : n = 32) (hop : op = 2) (hcc : Wd.cut n a ≠ 0 ∧ Wd.low 64 (Wd.cut n a) ≤ 32) (ha : a < 18446744073709551616) (hT : Tb w) :
    Calls Tryd.prog 11 #[.int .i64 op, .int .i64 n, .int .u64 a] w fun e w' =>
      e = .returned (.tuple #[.int .u64 ((uz op n a : Nat) : Int), .int .i64 0]) ∧ Below w.heap.size w w' := by
  have hc := Wd.cut_lt h ha
  have hl : Lib.bitLen (Wd.cut n a) ≤ n.toNat := Lib.bitLen_le _ _ (by rcases h with rfl | rfl <;> decide) (by rw [← Wd.md_pow h]; exact hc)
  have hx := Nat.lt_of_lt_of_le hc (Wd.md_le h)
  have K := Lib.hid (known_yes op 4 n w h h0 (by omega))
  have C := Lib.hid (Cut_any n a w)
  have U : Hid (uz op n a = if op = 0 then n.toNat - Lib.bitLen (Wd.cut n a) else if op = 1 then min (Wd.low 64 (Wd.cut n a)) n.toNat
  else if op = 2 then Wd.pop 64 (Wd.cut n a) else if Wd.cut n a = 0 then 1 else 0) := Lib.hid rfl
  obtain ⟨x, ex⟩ : ∃ x, x = Wd.cut n a := ⟨_, rfl⟩
  rw [← ex] at hl hx C U hcc
  have L := Lib.hid (Lz_any x w hx)
  have Z := Lib.hid (Tz_any x w hx hT)
  have O := Lib.hid (Ones_any x w hx)
  have lz : Wd.low 64 x ≤ 64 := by
    by_cases hz : x = 0
    · rw [hz, Wd.low_zero]; omega
    · have := (Wd.low_spec 64 x hx (by omega)).1; omega
  have lo := Wd.pop_le 64 x
  obtain ⟨l, el⟩ : ∃ l, l = Lib.bitLen x := ⟨_, rfl⟩
  obtain ⟨z, ez⟩ : ∃ z, z = Wd.low 64 x := ⟨_, rfl⟩
  obtain ⟨o, eo⟩ : ∃ o, o = Wd.pop 64 x := ⟨_, rfl⟩
  rw [← el] at hl L U
  rw [← ez] at lz Z U
  rw [← ez] at hcc
  rw [← eo] at lo O U
  have HX := Lib.hid hx
  have HZ0 : Hid (x = 0 → z = 64) := Lib.hid (fun e => by rw [ez, e, Wd.low_zero])
  have HCC := Lib.hid hcc
  clear hcc hc hx ex el ez eo hT ha
  subst hn
  subst hop
  simp only [Int.reduceToNat] at hl
  have hx2 := HCC.out.1
  have hx1 : ((x : Int) == 0) = false := by simp [hx2]
  have hz := HCC.out.2
  have HX2 := Lib.hid hx2
  clear hx2 h0 h3 HCC HZ0 h
  go_enter Tryd.func11, Tryd.ntmps11
  go_wp2_with (first
    | (go_at_call 33; refine K.out.mono ?_; rintro e w1 ⟨rfl, rfl⟩)
    | (go_at_call 12; refine C.out.mono ?_; rintro e w1 ⟨rfl, rfl⟩)
    | (go_at_call 34; refine L.out.mono ?_; rintro e w1 ⟨rfl, rfl⟩)
    | (go_at_call 35; refine Z.out.mono ?_; rintro e w1 ⟨rfl, rfl⟩)
    | (go_at_call 36; refine O.out.mono ?_; rintro e w1 ⟨rfl, rfl⟩)
    | (go_at_call 37; refine (truth_any _ _).mono ?_; rintro e w1 ⟨rfl, rfl⟩))
  go_ret2
  refine ⟨?_, (Below.refl _ _).alloc (Nat.le_refl _) _⟩
  refine ret_pair ?_ rfl
  have U := U.out
  have HX2 := HX2.out
  first | rw [if_pos HX2] at U | rw [if_neg HX2] at U
  simp at U
  first
    | (rw [U]; done)
    | (rw [U]; omega)
    | (rw [U]; simp; done)
set_option maxHeartbeats 400000 in
set_option maxRecDepth 100000 in
theorem U32_1_3 (op n : Int) (a : Nat) (w : World) (h : Wd.ok n) (h0 : 0 ≤ op) (h3 : op ≤ 3) (hn : n = 32) (hop : op = 3) (hcc : Wd.cut n a ≠ 0 ∧ Wd.low 64 (Wd.cut n a) ≤ 32) (ha : a < 18446744073709551616) (hT : Tb w) :
    Calls Tryd.prog 11 #[.int .i64 op, .int .i64 n, .int .u64 a] w fun e w' =>
      e = .returned (.tuple #[.int .u64 ((uz op n a : Nat) : Int), .int .i64 0]) ∧ Below w.heap.size w w' := by
  have hc := Wd.cut_lt h ha
  have hl : Lib.bitLen (Wd.cut n a) ≤ n.toNat := Lib.bitLen_le _ _ (by rcases h with rfl | rfl <;> decide) (by rw [← Wd.md_pow h]; exact hc)
  have hx := Nat.lt_of_lt_of_le hc (Wd.md_le h)
  have K := Lib.hid (known_yes op 4 n w h h0 (by omega))
  have C := Lib.hid (Cut_any n a w)
  have U : Hid (uz op n a = if op = 0 then n.toNat - Lib.bitLen (Wd.cut n a) else if op = 1 then min (Wd.low 64 (Wd.cut n a)) n.toNat
  else if op = 2 then Wd.pop 64 (Wd.cut n a) else if Wd.cut n a = 0 then 1 else 0) := Lib.hid rfl
  obtain ⟨x, ex⟩ : ∃ x, x = Wd.cut n a := ⟨_, rfl⟩
  rw [← ex] at hl hx C U hcc
  have L := Lib.hid (Lz_any x w hx)
  have Z := Lib.hid (Tz_any x w hx hT)
  have O := Lib.hid (Ones_any x w hx)
  have lz : Wd.low 64 x ≤ 64 := by
    by_cases hz : x = 0
    · rw [hz, Wd.low_zero]; omega
    · have := (Wd.low_spec 64 x hx (by omega)).1; omega
  have lo := Wd.pop_le 64 x
  obtain ⟨l, el⟩ : ∃ l, l = Lib.bitLen x := ⟨_, rfl⟩
  obtain ⟨z, ez⟩ : ∃ z, z = Wd.low 64 x := ⟨_, rfl⟩
  obtain ⟨o, eo⟩ : ∃ o, o = Wd.pop 64 x := ⟨_, rfl⟩
  rw [← el] at hl L U
  rw [← ez] at lz Z U
  rw [← ez] at hcc
  rw [← eo] at lo O U
  have HX := Lib.hid hx
  have HZ0 : Hid (x = 0 → z = 64) := Lib.hid (fun e => by rw [ez, e, Wd.low_zero])
  have HCC := Lib.hid hcc
  clear hcc hc hx ex el ez eo hT ha
  subst hn
  subst hop
  simp only [Int.reduceToNat] at hl
  have hx2 := HCC.out.1
  have hx1 : ((x : Int) == 0) = false := by simp [hx2]
  have hz := HCC.out.2
  have HX2 := Lib.hid hx2
  clear hx2 h0 h3 HCC HZ0 h
  go_enter Tryd.func11, Tryd.ntmps11
  go_wp2_with (first
    | (go_at_call 33; refine K.out.mono ?_; rintro e w1 ⟨rfl, rfl⟩)
    | (go_at_call 12; refine C.out.mono ?_; rintro e w1 ⟨rfl, rfl⟩)
    | (go_at_call 34; refine L.out.mono ?_; rintro e w1 ⟨rfl, rfl⟩)
    | (go_at_call 35; refine Z.out.mono ?_; rintro e w1 ⟨rfl, rfl⟩)
    | (go_at_call 36; refine O.out.mono ?_; rintro e w1 ⟨rfl, rfl⟩)
    | (go_at_call 37; refine (truth_any _ _).mono ?_; rintro e w1 ⟨rfl, rfl⟩))
  go_ret2
  refine ⟨?_, (Below.refl _ _).alloc (Nat.le_refl _) _⟩
  refine ret_pair ?_ rfl
  have U := U.out
  have HX2 := HX2.out
  first | rw [if_pos HX2] at U | rw [if_neg HX2] at U
  simp at U
  first
    | (rw [U]; done)
    | (rw [U]; omega)
    | (rw [U]; simp; done)
set_option maxHeartbeats 400000 in
set_option maxRecDepth 100000 in
theorem U32_2_0 (op n : Int) (a : Nat) (w : World) (h : Wd.ok n) (h0 : 0 ≤ op) (h3 : op ≤ 3) (hn : n = 32) (hop : op = 0) (hcc : Wd.cut n a ≠ 0 ∧ 32 < Wd.low 64 (Wd.cut n a)) (ha : a < 18446744073709551616) (hT : Tb w) :
    Calls Tryd.prog 11 #[.int .i64 op, .int .i64 n, .int .u64 a] w fun e w' =>
      e = .returned (.tuple #[.int .u64 ((uz op n a : Nat) : Int), .int .i64 0]) ∧ Below w.heap.size w w' := by
  have hc := Wd.cut_lt h ha
  have hl : Lib.bitLen (Wd.cut n a) ≤ n.toNat := Lib.bitLen_le _ _ (by rcases h with rfl | rfl <;> decide) (by rw [← Wd.md_pow h]; exact hc)
  have hx := Nat.lt_of_lt_of_le hc (Wd.md_le h)
  have K := Lib.hid (known_yes op 4 n w h h0 (by omega))
  have C := Lib.hid (Cut_any n a w)
  have U : Hid (uz op n a = if op = 0 then n.toNat - Lib.bitLen (Wd.cut n a) else if op = 1 then min (Wd.low 64 (Wd.cut n a)) n.toNat
  else if op = 2 then Wd.pop 64 (Wd.cut n a) else if Wd.cut n a = 0 then 1 else 0) := Lib.hid rfl
  obtain ⟨x, ex⟩ : ∃ x, x = Wd.cut n a := ⟨_, rfl⟩
  rw [← ex] at hl hx C U hcc
  have L := Lib.hid (Lz_any x w hx)
  have Z := Lib.hid (Tz_any x w hx hT)
  have O := Lib.hid (Ones_any x w hx)
  have lz : Wd.low 64 x ≤ 64 := by
    by_cases hz : x = 0
    · rw [hz, Wd.low_zero]; omega
    · have := (Wd.low_spec 64 x hx (by omega)).1; omega
  have lo := Wd.pop_le 64 x
  obtain ⟨l, el⟩ : ∃ l, l = Lib.bitLen x := ⟨_, rfl⟩
  obtain ⟨z, ez⟩ : ∃ z, z = Wd.low 64 x := ⟨_, rfl⟩
  obtain ⟨o, eo⟩ : ∃ o, o = Wd.pop 64 x := ⟨_, rfl⟩
  rw [← el] at hl L U
  rw [← ez] at lz Z U
  rw [← ez] at hcc
  rw [← eo] at lo O U
  have HX := Lib.hid hx
  have HZ0 : Hid (x = 0 → z = 64) := Lib.hid (fun e => by rw [ez, e, Wd.low_zero])
  have HCC := Lib.hid hcc
  clear hcc hc hx ex el ez eo hT ha
  subst hn
  subst hop
  simp only [Int.reduceToNat] at hl
  have hx2 := HCC.out.1
  have hx1 : ((x : Int) == 0) = false := by simp [hx2]
  have hz := HCC.out.2
  have HX2 := Lib.hid hx2
  clear hx2 h0 h3 HCC HZ0 h
  go_enter Tryd.func11, Tryd.ntmps11
  go_wp2_with (first
    | (go_at_call 33; refine K.out.mono ?_; rintro e w1 ⟨rfl, rfl⟩)
    | (go_at_call 12; refine C.out.mono ?_; rintro e w1 ⟨rfl, rfl⟩)
    | (go_at_call 34; refine L.out.mono ?_; rintro e w1 ⟨rfl, rfl⟩)
    | (go_at_call 35; refine Z.out.mono ?_; rintro e w1 ⟨rfl, rfl⟩)
    | (go_at_call 36; refine O.out.mono ?_; rintro e w1 ⟨rfl, rfl⟩)
    | (go_at_call 37; refine (truth_any _ _).mono ?_; rintro e w1 ⟨rfl, rfl⟩))
  go_ret2
  refine ⟨?_, (Below.refl _ _).alloc (Nat.le_refl _) _⟩
  refine ret_pair ?_ rfl
  have U := U.out
  have HX2 := HX2.out
  first | rw [if_pos HX2] at U | rw [if_neg HX2] at U
  simp at U
  first
    | (rw [U]; done)
    | (rw [U]; omega)
    | (rw [U]; simp; done)
set_option maxHeartbeats 400000 in
set_option maxRecDepth 100000 in
theorem U32_2_1 (op n : Int) (a : Nat) (w : World) (h : Wd.ok n) (h0 : 0 ≤ op) (h3 : op ≤ 3) (hn : n = 32) (hop : op = 1) (hcc : Wd.cut n a ≠ 0 ∧ 32 < Wd.low 64 (Wd.cut n a)) (ha : a < 18446744073709551616) (hT : Tb w) :
    Calls Tryd.prog 11 #[.int .i64 op, .int .i64 n, .int .u64 a] w fun e w' =>
      e = .returned (.tuple #[.int .u64 ((uz op n a : Nat) : Int), .int .i64 0]) ∧ Below w.heap.size w w' := by
  have hc := Wd.cut_lt h ha
  have hl : Lib.bitLen (Wd.cut n a) ≤ n.toNat := Lib.bitLen_le _ _ (by rcases h with rfl | rfl <;> decide) (by rw [← Wd.md_pow h]; exact hc)
  have hx := Nat.lt_of_lt_of_le hc (Wd.md_le h)
  have K := Lib.hid (known_yes op 4 n w h h0 (by omega))
  have C := Lib.hid (Cut_any n a w)
  have U : Hid (uz op n a = if op = 0 then n.toNat - Lib.bitLen (Wd.cut n a) else if op = 1 then min (Wd.low 64 (Wd.cut n a)) n.toNat
  else if op = 2 then Wd.pop 64 (Wd.cut n a) else if Wd.cut n a = 0 then 1 else 0) := Lib.hid rfl
  obtain ⟨x, ex⟩ : ∃ x, x = Wd.cut n a := ⟨_, rfl⟩
  rw [← ex] at hl hx C U hcc
  have L := Lib.hid (Lz_any x w hx)
  have Z := Lib.hid (Tz_any x w hx hT)
  have O := Lib.hid (Ones_any x w hx)
  have lz : Wd.low 64 x ≤ 64 := by
    by_cases hz : x = 0
    · rw [hz, Wd.low_zero]; omega
    · have := (Wd.low_spec 64 x hx (by omega)).1; omega
  have lo := Wd.pop_le 64 x
  obtain ⟨l, el⟩ : ∃ l, l = Lib.bitLen x := ⟨_, rfl⟩
  obtain ⟨z, ez⟩ : ∃ z, z = Wd.low 64 x := ⟨_, rfl⟩
  obtain ⟨o, eo⟩ : ∃ o, o = Wd.pop 64 x := ⟨_, rfl⟩
  rw [← el] at hl L U
  rw [← ez] at lz Z U
  rw [← ez] at hcc
  rw [← eo] at lo O U
  have HX := Lib.hid hx
  have HZ0 : Hid (x = 0 → z = 64) := Lib.hid (fun e => by rw [ez, e, Wd.low_zero])
  have HCC := Lib.hid hcc
  clear hcc hc hx ex el ez eo hT ha
  subst hn
  subst hop
  simp only [Int.reduceToNat] at hl
  have hx2 := HCC.out.1
  have hx1 : ((x : Int) == 0) = false := by simp [hx2]
  have hz := HCC.out.2
  have HX2 := Lib.hid hx2
  clear hx2 h0 h3 HCC HZ0 h
  go_enter Tryd.func11, Tryd.ntmps11
  go_wp2_with (first
    | (go_at_call 33; refine K.out.mono ?_; rintro e w1 ⟨rfl, rfl⟩)
    | (go_at_call 12; refine C.out.mono ?_; rintro e w1 ⟨rfl, rfl⟩)
    | (go_at_call 34; refine L.out.mono ?_; rintro e w1 ⟨rfl, rfl⟩)
    | (go_at_call 35; refine Z.out.mono ?_; rintro e w1 ⟨rfl, rfl⟩)
    | (go_at_call 36; refine O.out.mono ?_; rintro e w1 ⟨rfl, rfl⟩)
    | (go_at_call 37; refine (truth_any _ _).mono ?_; rintro e w1 ⟨rfl, rfl⟩))
  go_ret2
  refine ⟨?_, (Below.refl _ _).alloc (Nat.le_refl _) _⟩
  refine ret_pair ?_ rfl
  have U := U.out
  have HX2 := HX2.out
  first | rw [if_pos HX2] at U | rw [if_neg HX2] at U
  simp at U
  first
    | (rw [U]; done)
    | (rw [U]; omega)
    | (rw [U]; simp; done)
set_option maxHeartbeats 400000 in
set_option maxRecDepth 100000 in
theorem U32_2_2 (op n : Int) (a : Nat) (w : World) (h : Wd.ok n) (h0 : 0 ≤ op) (h3 : op ≤ 3) (hn : n = 32) (hop : op = 2) (hcc : Wd.cut n a ≠ 0 ∧ 32 < Wd.low 64 (Wd.cut n a)) (ha : a < 18446744073709551616) (hT : Tb w) :
    Calls Tryd.prog 11 #[.int .i64 op, .int .i64 n, .int .u64 a] w fun e w' =>
      e = .returned (.tuple #[.int .u64 ((uz op n a : Nat) : Int), .int .i64 0]) ∧ Below w.heap.size w w' := by
  have hc := Wd.cut_lt h ha
  have hl : Lib.bitLen (Wd.cut n a) ≤ n.toNat := Lib.bitLen_le _ _ (by rcases h with rfl | rfl <;> decide) (by rw [← Wd.md_pow h]; exact hc)
  have hx := Nat.lt_of_lt_of_le hc (Wd.md_le h)
  have K := Lib.hid (known_yes op 4 n w h h0 (by omega))
  have C := Lib.hid (Cut_any n a w)
  have U : Hid (uz op n a = if op = 0 then n.toNat - Lib.bitLen (Wd.cut n a) else if op = 1 then min (Wd.low 64 (Wd.cut n a)) n.toNat
  else if op = 2 then Wd.pop 64 (Wd.cut n a) else if Wd.cut n a = 0 then 1 else 0) := Lib.hid rfl
  obtain ⟨x, ex⟩ : ∃ x, x = Wd.cut n a := ⟨_, rfl⟩
  rw [← ex] at hl hx C U hcc
  have L := Lib.hid (Lz_any x w hx)
  have Z := Lib.hid (Tz_any x w hx hT)
  have O := Lib.hid (Ones_any x w hx)
  have lz : Wd.low 64 x ≤ 64 := by
    by_cases hz : x = 0
    · rw [hz, Wd.low_zero]; omega
    · have := (Wd.low_spec 64 x hx (by omega)).1; omega
  have lo := Wd.pop_le 64 x
  obtain ⟨l, el⟩ : ∃ l, l = Lib.bitLen x := ⟨_, rfl⟩
  obtain ⟨z, ez⟩ : ∃ z, z = Wd.low 64 x := ⟨_, rfl⟩
  obtain ⟨o, eo⟩ : ∃ o, o = Wd.pop 64 x := ⟨_, rfl⟩
  rw [← el] at hl L U
  rw [← ez] at lz Z U
  rw [← ez] at hcc
  rw [← eo] at lo O U
  have HX := Lib.hid hx
  have HZ0 : Hid (x = 0 → z = 64) := Lib.hid (fun e => by rw [ez, e, Wd.low_zero])
  have HCC := Lib.hid hcc
  clear hcc hc hx ex el ez eo hT ha
  subst hn
  subst hop
  simp only [Int.reduceToNat] at hl
  have hx2 := HCC.out.1
  have hx1 : ((x : Int) == 0) = false := by simp [hx2]
  have hz := HCC.out.2
  have HX2 := Lib.hid hx2
  clear hx2 h0 h3 HCC HZ0 h
  go_enter Tryd.func11, Tryd.ntmps11
  go_wp2_with (first
    | (go_at_call 33; refine K.out.mono ?_; rintro e w1 ⟨rfl, rfl⟩)
    | (go_at_call 12; refine C.out.mono ?_; rintro e w1 ⟨rfl, rfl⟩)
    | (go_at_call 34; refine L.out.mono ?_; rintro e w1 ⟨rfl, rfl⟩)
    | (go_at_call 35; refine Z.out.mono ?_; rintro e w1 ⟨rfl, rfl⟩)
    | (go_at_call 36; refine O.out.mono ?_; rintro e w1 ⟨rfl, rfl⟩)
    | (go_at_call 37; refine (truth_any _ _).mono ?_; rintro e w1 ⟨rfl, rfl⟩))
  go_ret2
  refine ⟨?_, (Below.refl _ _).alloc (Nat.le_refl _) _⟩
  refine ret_pair ?_ rfl
  have U := U.out
  have HX2 := HX2.out
  first | rw [if_pos HX2] at U | rw [if_neg HX2] at U
  simp at U
  first
    | (rw [U]; done)
    | (rw [U]; omega)
    | (rw [U]; simp; done)
set_option maxHeartbeats 400000 in
set_option maxRecDepth 100000 in
theorem U32_2_3 (op n : Int) (a : Nat) (w : World) (h : Wd.ok n) (h0 : 0 ≤ op) (h3 : op ≤ 3) (hn : n = 32) (hop : op = 3) (hcc : Wd.cut n a ≠ 0 ∧ 32 < Wd.low 64 (Wd.cut n a)) (ha : a < 18446744073709551616) (hT : Tb w) :
    Calls Tryd.prog 11 #[.int .i64 op, .int .i64 n, .int .u64 a] w fun e w' =>
      e = .returned (.tuple #[.int .u64 ((uz op n a : Nat) : Int), .int .i64 0]) ∧ Below w.heap.size w w' := by
  have hc := Wd.cut_lt h ha
  have hl : Lib.bitLen (Wd.cut n a) ≤ n.toNat := Lib.bitLen_le _ _ (by rcases h with rfl | rfl <;> decide) (by rw [← Wd.md_pow h]; exact hc)
  have hx := Nat.lt_of_lt_of_le hc (Wd.md_le h)
  have K := Lib.hid (known_yes op 4 n w h h0 (by omega))
  have C := Lib.hid (Cut_any n a w)
  have U : Hid (uz op n a = if op = 0 then n.toNat - Lib.bitLen (Wd.cut n a) else if op = 1 then min (Wd.low 64 (Wd.cut n a)) n.toNat
  else if op = 2 then Wd.pop 64 (Wd.cut n a) else if Wd.cut n a = 0 then 1 else 0) := Lib.hid rfl
  obtain ⟨x, ex⟩ : ∃ x, x = Wd.cut n a := ⟨_, rfl⟩
  rw [← ex] at hl hx C U hcc
  have L := Lib.hid (Lz_any x w hx)
  have Z := Lib.hid (Tz_any x w hx hT)
  have O := Lib.hid (Ones_any x w hx)
  have lz : Wd.low 64 x ≤ 64 := by
    by_cases hz : x = 0
    · rw [hz, Wd.low_zero]; omega
    · have := (Wd.low_spec 64 x hx (by omega)).1; omega
  have lo := Wd.pop_le 64 x
  obtain ⟨l, el⟩ : ∃ l, l = Lib.bitLen x := ⟨_, rfl⟩
  obtain ⟨z, ez⟩ : ∃ z, z = Wd.low 64 x := ⟨_, rfl⟩
  obtain ⟨o, eo⟩ : ∃ o, o = Wd.pop 64 x := ⟨_, rfl⟩
  rw [← el] at hl L U
  rw [← ez] at lz Z U
  rw [← ez] at hcc
  rw [← eo] at lo O U
  have HX := Lib.hid hx
  have HZ0 : Hid (x = 0 → z = 64) := Lib.hid (fun e => by rw [ez, e, Wd.low_zero])
  have HCC := Lib.hid hcc
  clear hcc hc hx ex el ez eo hT ha
  subst hn
  subst hop
  simp only [Int.reduceToNat] at hl
  have hx2 := HCC.out.1
  have hx1 : ((x : Int) == 0) = false := by simp [hx2]
  have hz := HCC.out.2
  have HX2 := Lib.hid hx2
  clear hx2 h0 h3 HCC HZ0 h
  go_enter Tryd.func11, Tryd.ntmps11
  go_wp2_with (first
    | (go_at_call 33; refine K.out.mono ?_; rintro e w1 ⟨rfl, rfl⟩)
    | (go_at_call 12; refine C.out.mono ?_; rintro e w1 ⟨rfl, rfl⟩)
    | (go_at_call 34; refine L.out.mono ?_; rintro e w1 ⟨rfl, rfl⟩)
    | (go_at_call 35; refine Z.out.mono ?_; rintro e w1 ⟨rfl, rfl⟩)
    | (go_at_call 36; refine O.out.mono ?_; rintro e w1 ⟨rfl, rfl⟩)
    | (go_at_call 37; refine (truth_any _ _).mono ?_; rintro e w1 ⟨rfl, rfl⟩))
  go_ret2
  refine ⟨?_, (Below.refl _ _).alloc (Nat.le_refl _) _⟩
  refine ret_pair ?_ rfl
  have U := U.out
  have HX2 := HX2.out
  first | rw [if_pos HX2] at U | rw [if_neg HX2] at U
  simp at U
  first
    | (rw [U]; done)
    | (rw [U]; omega)
    | (rw [U]; simp; done)
set_option maxHeartbeats 400000 in
set_option maxRecDepth 100000 in
theorem U64_0_0 (op n : Int) (a : Nat) (w : World) (h : Wd.ok n) (h0 : 0 ≤ op) (h3 : op ≤ 3) (hn : n = 64) (hop : op = 0) (hcc : Wd.cut n a = 0) (ha : a < 18446744073709551616) (hT : Tb w) :
    Calls Tryd.prog 11 #[.int .i64 op, .int .i64 n, .int .u64 a] w fun e w' =>
      e = .returned (.tuple #[.int .u64 ((uz op n a : Nat) : Int), .int .i64 0]) ∧ Below w.heap.size w w' := by
  have hc := Wd.cut_lt h ha
  have hl : Lib.bitLen (Wd.cut n a) ≤ n.toNat := Lib.bitLen_le _ _ (by rcases h with rfl | rfl <;> decide) (by rw [← Wd.md_pow h]; exact hc)
  have hx := Nat.lt_of_lt_of_le hc (Wd.md_le h)
  have K := Lib.hid (known_yes op 4 n w h h0 (by omega))
  have C := Lib.hid (Cut_any n a w)
  have U : Hid (uz op n a = if op = 0 then n.toNat - Lib.bitLen (Wd.cut n a) else if op = 1 then min (Wd.low 64 (Wd.cut n a)) n.toNat
  else if op = 2 then Wd.pop 64 (Wd.cut n a) else if Wd.cut n a = 0 then 1 else 0) := Lib.hid rfl
  obtain ⟨x, ex⟩ : ∃ x, x = Wd.cut n a := ⟨_, rfl⟩
  rw [← ex] at hl hx C U hcc
  have L := Lib.hid (Lz_any x w hx)
  have Z := Lib.hid (Tz_any x w hx hT)
  have O := Lib.hid (Ones_any x w hx)
  have lz : Wd.low 64 x ≤ 64 := by
    by_cases hz : x = 0
    · rw [hz, Wd.low_zero]; omega
    · have := (Wd.low_spec 64 x hx (by omega)).1; omega
  have lo := Wd.pop_le 64 x
  obtain ⟨l, el⟩ : ∃ l, l = Lib.bitLen x := ⟨_, rfl⟩
  obtain ⟨z, ez⟩ : ∃ z, z = Wd.low 64 x := ⟨_, rfl⟩
  obtain ⟨o, eo⟩ : ∃ o, o = Wd.pop 64 x := ⟨_, rfl⟩
  rw [← el] at hl L U
  rw [← ez] at lz Z U
  rw [← eo] at lo O U
  have HX := Lib.hid hx
  have HZ0 : Hid (x = 0 → z = 64) := Lib.hid (fun e => by rw [ez, e, Wd.low_zero])
  have HCC := Lib.hid hcc
  clear hcc hc hx ex el ez eo hT ha
  subst hn
  subst hop
  simp only [Int.reduceToNat] at hl
  have hx2 := HCC.out
  have hx1 : ((x : Int) == 0) = true := by simp [hx2]
  have hz := HZ0.out hx2
  have HX2 := Lib.hid hx2
  clear hx2 h0 h3 HCC HZ0 h
  go_enter Tryd.func11, Tryd.ntmps11
  go_wp2_with (first
    | (go_at_call 33; refine K.out.mono ?_; rintro e w1 ⟨rfl, rfl⟩)
    | (go_at_call 12; refine C.out.mono ?_; rintro e w1 ⟨rfl, rfl⟩)
    | (go_at_call 34; refine L.out.mono ?_; rintro e w1 ⟨rfl, rfl⟩)
    | (go_at_call 35; refine Z.out.mono ?_; rintro e w1 ⟨rfl, rfl⟩)
    | (go_at_call 36; refine O.out.mono ?_; rintro e w1 ⟨rfl, rfl⟩)
    | (go_at_call 37; refine (truth_any _ _).mono ?_; rintro e w1 ⟨rfl, rfl⟩))
  go_ret2
  refine ⟨?_, (Below.refl _ _).alloc (Nat.le_refl _) _⟩
  refine ret_pair ?_ rfl
  have U := U.out
  have HX2 := HX2.out
  first | rw [if_pos HX2] at U | rw [if_neg HX2] at U
  simp at U
  first
    | (rw [U]; done)
    | (rw [U]; omega)
    | (rw [U]; simp; done)
set_option maxHeartbeats 400000 in
set_option maxRecDepth 100000 in
theorem U64_0_1 (op n : Int) (a : Nat) (w : World) (h : Wd.ok n) (h0 : 0 ≤ op) (h3 : op ≤ 3) (hn : n = 64) (hop : op = 1) (hcc : Wd.cut n a = 0) (ha : a < 18446744073709551616) (hT : Tb w) :
    Calls Tryd.prog 11 #[.int .i64 op, .int .i64 n, .int .u64 a] w fun e w' =>
      e = .returned (.tuple #[.int .u64 ((uz op n a : Nat) : Int), .int .i64 0]) ∧ Below w.heap.size w w' := by
  have hc := Wd.cut_lt h ha
  have hl : Lib.bitLen (Wd.cut n a) ≤ n.toNat := Lib.bitLen_le _ _ (by rcases h with rfl | rfl <;> decide) (by rw [← Wd.md_pow h]; exact hc)
  have hx := Nat.lt_of_lt_of_le hc (Wd.md_le h)
  have K := Lib.hid (known_yes op 4 n w h h0 (by omega))
  have C := Lib.hid (Cut_any n a w)
  have U : Hid (uz op n a = if op = 0 then n.toNat - Lib.bitLen (Wd.cut n a) else if op = 1 then min (Wd.low 64 (Wd.cut n a)) n.toNat
  else if op = 2 then Wd.pop 64 (Wd.cut n a) else if Wd.cut n a = 0 then 1 else 0) := Lib.hid rfl
  obtain ⟨x, ex⟩ : ∃ x, x = Wd.cut n a := ⟨_, rfl⟩
  rw [← ex] at hl hx C U hcc
  have L := Lib.hid (Lz_any x w hx)
  have Z := Lib.hid (Tz_any x w hx hT)
  have O := Lib.hid (Ones_any x w hx)
  have lz : Wd.low 64 x ≤ 64 := by
    by_cases hz : x = 0
    · rw [hz, Wd.low_zero]; omega
    · have := (Wd.low_spec 64 x hx (by omega)).1; omega
  have lo := Wd.pop_le 64 x
  obtain ⟨l, el⟩ : ∃ l, l = Lib.bitLen x := ⟨_, rfl⟩
  obtain ⟨z, ez⟩ : ∃ z, z = Wd.low 64 x := ⟨_, rfl⟩
  obtain ⟨o, eo⟩ : ∃ o, o = Wd.pop 64 x := ⟨_, rfl⟩
  rw [← el] at hl L U
  rw [← ez] at lz Z U
  rw [← eo] at lo O U
  have HX := Lib.hid hx
  have HZ0 : Hid (x = 0 → z = 64) := Lib.hid (fun e => by rw [ez, e, Wd.low_zero])
  have HCC := Lib.hid hcc
  clear hcc hc hx ex el ez eo hT ha
  subst hn
  subst hop
  simp only [Int.reduceToNat] at hl
  have hx2 := HCC.out
  have hx1 : ((x : Int) == 0) = true := by simp [hx2]
  have hz := HZ0.out hx2
  have HX2 := Lib.hid hx2
  clear hx2 h0 h3 HCC HZ0 h
  go_enter Tryd.func11, Tryd.ntmps11
  go_wp2_with (first
    | (go_at_call 33; refine K.out.mono ?_; rintro e w1 ⟨rfl, rfl⟩)
    | (go_at_call 12; refine C.out.mono ?_; rintro e w1 ⟨rfl, rfl⟩)
    | (go_at_call 34; refine L.out.mono ?_; rintro e w1 ⟨rfl, rfl⟩)
    | (go_at_call 35; refine Z.out.mono ?_; rintro e w1 ⟨rfl, rfl⟩)
    | (go_at_call 36; refine O.out.mono ?_; rintro e w1 ⟨rfl, rfl⟩)
    | (go_at_call 37; refine (truth_any _ _).mono ?_; rintro e w1 ⟨rfl, rfl⟩))
  go_ret2
  refine ⟨?_, (Below.refl _ _).alloc (Nat.le_refl _) _⟩
  refine ret_pair ?_ rfl
  have U := U.out
  have HX2 := HX2.out
  first | rw [if_pos HX2] at U | rw [if_neg HX2] at U
  simp at U
  first
    | (rw [U]; done)
    | (rw [U]; omega)
    | (rw [U]; simp; done)
set_option maxHeartbeats 400000 in
set_option maxRecDepth 100000 in
theorem U64_0_2 (op n : Int) (a : Nat) (w : World) (h : Wd.ok n) (h0 : 0 ≤ op) (h3 : op ≤ 3) (hn : n = 64) (hop : op = 2) (hcc : Wd.cut n a = 0) (ha : a < 18446744073709551616) (hT : Tb w) :
    Calls Tryd.prog 11 #[.int .i64 op, .int .i64 n, .int .u64 a] w fun e w' =>
      e = .returned (.tuple #[.int .u64 ((uz op n a : Nat) : Int), .int .i64 0]) ∧ Below w.heap.size w w' := by
  have hc := Wd.cut_lt h ha
  have hl : Lib.bitLen (Wd.cut n a) ≤ n.toNat := Lib.bitLen_le _ _ (by rcases h with rfl | rfl <;> decide) (by rw [← Wd.md_pow h]; exact hc)
  have hx := Nat.lt_of_lt_of_le hc (Wd.md_le h)
  have K := Lib.hid (known_yes op 4 n w h h0 (by omega))
  have C := Lib.hid (Cut_any n a w)
  have U : Hid (uz op n a = if op = 0 then n.toNat - Lib.bitLen (Wd.cut n a) else if op = 1 then min (Wd.low 64 (Wd.cut n a)) n.toNat
  else if op = 2 then Wd.pop 64 (Wd.cut n a) else if Wd.cut n a = 0 then 1 else 0) := Lib.hid rfl
  obtain ⟨x, ex⟩ : ∃ x, x = Wd.cut n a := ⟨_, rfl⟩
  rw [← ex] at hl hx C U hcc
  have L := Lib.hid (Lz_any x w hx)
  have Z := Lib.hid (Tz_any x w hx hT)
  have O := Lib.hid (Ones_any x w hx)
  have lz : Wd.low 64 x ≤ 64 := by
    by_cases hz : x = 0
    · rw [hz, Wd.low_zero]; omega
    · have := (Wd.low_spec 64 x hx (by omega)).1; omega
  have lo := Wd.pop_le 64 x
  obtain ⟨l, el⟩ : ∃ l, l = Lib.bitLen x := ⟨_, rfl⟩
  obtain ⟨z, ez⟩ : ∃ z, z = Wd.low 64 x := ⟨_, rfl⟩
  obtain ⟨o, eo⟩ : ∃ o, o = Wd.pop 64 x := ⟨_, rfl⟩
  rw [← el] at hl L U
  rw [← ez] at lz Z U
  rw [← eo] at lo O U
  have HX := Lib.hid hx
  have HZ0 : Hid (x = 0 → z = 64) := Lib.hid (fun e => by rw [ez, e, Wd.low_zero])
  have HCC := Lib.hid hcc
  clear hcc hc hx ex el ez eo hT ha
  subst hn
  subst hop
  simp only [Int.reduceToNat] at hl
  have hx2 := HCC.out
  have hx1 : ((x : Int) == 0) = true := by simp [hx2]
  have hz := HZ0.out hx2
  have HX2 := Lib.hid hx2
  clear hx2 h0 h3 HCC HZ0 h
  go_enter Tryd.func11, Tryd.ntmps11
  go_wp2_with (first
    | (go_at_call 33; refine K.out.mono ?_; rintro e w1 ⟨rfl, rfl⟩)
    | (go_at_call 12; refine C.out.mono ?_; rintro e w1 ⟨rfl, rfl⟩)
    | (go_at_call 34; refine L.out.mono ?_; rintro e w1 ⟨rfl, rfl⟩)
    | (go_at_call 35; refine Z.out.mono ?_; rintro e w1 ⟨rfl, rfl⟩)
    | (go_at_call 36; refine O.out.mono ?_; rintro e w1 ⟨rfl, rfl⟩)
    | (go_at_call 37; refine (truth_any _ _).mono ?_; rintro e w1 ⟨rfl, rfl⟩))
  go_ret2
  refine ⟨?_, (Below.refl _ _).alloc (Nat.le_refl _) _⟩
  refine ret_pair ?_ rfl
  have U := U.out
  have HX2 := HX2.out
  first | rw [if_pos HX2] at U | rw [if_neg HX2] at U
  simp at U
  first
    | (rw [U]; done)
    | (rw [U]; omega)
    | (rw [U]; simp; done)
set_option maxHeartbeats 400000 in
set_option maxRecDepth 100000 in
theorem U64_0_3 (op n : Int) (a : Nat) (w : World) (h : Wd.ok n) (h0 : 0 ≤ op) (h3 : op ≤ 3) (hn : n = 64) (hop : op = 3) (hcc : Wd.cut n a = 0) (ha : a < 18446744073709551616) (hT : Tb w) :
    Calls Tryd.prog 11 #[.int .i64 op, .int .i64 n, .int .u64 a] w fun e w' =>
      e = .returned (.tuple #[.int .u64 ((uz op n a : Nat) : Int), .int .i64 0]) ∧ Below w.heap.size w w' := by
  have hc := Wd.cut_lt h ha
  have hl : Lib.bitLen (Wd.cut n a) ≤ n.toNat := Lib.bitLen_le _ _ (by rcases h with rfl | rfl <;> decide) (by rw [← Wd.md_pow h]; exact hc)
  have hx := Nat.lt_of_lt_of_le hc (Wd.md_le h)
  have K := Lib.hid (known_yes op 4 n w h h0 (by omega))
  have C := Lib.hid (Cut_any n a w)
  have U : Hid (uz op n a = if op = 0 then n.toNat - Lib.bitLen (Wd.cut n a) else if op = 1 then min (Wd.low 64 (Wd.cut n a)) n.toNat
  else if op = 2 then Wd.pop 64 (Wd.cut n a) else if Wd.cut n a = 0 then 1 else 0) := Lib.hid rfl
  obtain ⟨x, ex⟩ : ∃ x, x = Wd.cut n a := ⟨_, rfl⟩
  rw [← ex] at hl hx C U hcc
  have L := Lib.hid (Lz_any x w hx)
  have Z := Lib.hid (Tz_any x w hx hT)
  have O := Lib.hid (Ones_any x w hx)
  have lz : Wd.low 64 x ≤ 64 := by
    by_cases hz : x = 0
    · rw [hz, Wd.low_zero]; omega
    · have := (Wd.low_spec 64 x hx (by omega)).1; omega
  have lo := Wd.pop_le 64 x
  obtain ⟨l, el⟩ : ∃ l, l = Lib.bitLen x := ⟨_, rfl⟩
  obtain ⟨z, ez⟩ : ∃ z, z = Wd.low 64 x := ⟨_, rfl⟩
  obtain ⟨o, eo⟩ : ∃ o, o = Wd.pop 64 x := ⟨_, rfl⟩
  rw [← el] at hl L U
  rw [← ez] at lz Z U
  rw [← eo] at lo O U
  have HX := Lib.hid hx
  have HZ0 : Hid (x = 0 → z = 64) := Lib.hid (fun e => by rw [ez, e, Wd.low_zero])
  have HCC := Lib.hid hcc
  clear hcc hc hx ex el ez eo hT ha
  subst hn
  subst hop
  simp only [Int.reduceToNat] at hl
  have hx2 := HCC.out
  have hx1 : ((x : Int) == 0) = true := by simp [hx2]
  have hz := HZ0.out hx2
  have HX2 := Lib.hid hx2
  clear hx2 h0 h3 HCC HZ0 h
  go_enter Tryd.func11, Tryd.ntmps11
  go_wp2_with (first
    | (go_at_call 33; refine K.out.mono ?_; rintro e w1 ⟨rfl, rfl⟩)
    | (go_at_call 12; refine C.out.mono ?_; rintro e w1 ⟨rfl, rfl⟩)
    | (go_at_call 34; refine L.out.mono ?_; rintro e w1 ⟨rfl, rfl⟩)
    | (go_at_call 35; refine Z.out.mono ?_; rintro e w1 ⟨rfl, rfl⟩)
    | (go_at_call 36; refine O.out.mono ?_; rintro e w1 ⟨rfl, rfl⟩)
    | (go_at_call 37; refine (truth_any _ _).mono ?_; rintro e w1 ⟨rfl, rfl⟩))
  go_ret2
  refine ⟨?_, (Below.refl _ _).alloc (Nat.le_refl _) _⟩
  refine ret_pair ?_ rfl
  have U := U.out
  have HX2 := HX2.out
  first | rw [if_pos HX2] at U | rw [if_neg HX2] at U
  simp at U
  first
    | (rw [U]; done)
    | (rw [U]; omega)
    | (rw [U]; simp; done)
set_option maxHeartbeats 400000 in
set_option maxRecDepth 100000 in
theorem U64_1_0 (op n : Int) (a : Nat) (w : World) (h : Wd.ok n) (h0 : 0 ≤ op) (h3 : op ≤ 3) (hn : n = 64) (hop : op = 0) (hcc : Wd.cut n a ≠ 0 ∧ Wd.low 64 (Wd.cut n a) ≤ 32) (ha : a < 18446744073709551616) (hT : Tb w) :
    Calls Tryd.prog 11 #[.int .i64 op, .int .i64 n, .int .u64 a] w fun e w' =>
      e = .returned (.tuple #[.int .u64 ((uz op n a : Nat) : Int), .int .i64 0]) ∧ Below w.heap.size w w' := by
  have hc := Wd.cut_lt h ha
  have hl : Lib.bitLen (Wd.cut n a) ≤ n.toNat := Lib.bitLen_le _ _ (by rcases h with rfl | rfl <;> decide) (by rw [← Wd.md_pow h]; exact hc)
  have hx := Nat.lt_of_lt_of_le hc (Wd.md_le h)
  have K := Lib.hid (known_yes op 4 n w h h0 (by omega))
  have C := Lib.hid (Cut_any n a w)
  have U : Hid (uz op n a = if op = 0 then n.toNat - Lib.bitLen (Wd.cut n a) else if op = 1 then min (Wd.low 64 (Wd.cut n a)) n.toNat
  else if op = 2 then Wd.pop 64 (Wd.cut n a) else if Wd.cut n a = 0 then 1 else 0) := Lib.hid rfl
  obtain ⟨x, ex⟩ : ∃ x, x = Wd.cut n a := ⟨_, rfl⟩
  rw [← ex] at hl hx C U hcc
  have L := Lib.hid (Lz_any x w hx)
  have Z := Lib.hid (Tz_any x w hx hT)
  have O := Lib.hid (Ones_any x w hx)
  have lz : Wd.low 64 x ≤ 64 := by
    by_cases hz : x = 0
    · rw [hz, Wd.low_zero]; omega
    · have := (Wd.low_spec 64 x hx (by omega)).1; omega
  have lo := Wd.pop_le 64 x
  obtain ⟨l, el⟩ : ∃ l, l = Lib.bitLen x := ⟨_, rfl⟩
  obtain ⟨z, ez⟩ : ∃ z, z = Wd.low 64 x := ⟨_, rfl⟩
  obtain ⟨o, eo⟩ : ∃ o, o = Wd.pop 64 x := ⟨_, rfl⟩
  rw [← el] at hl L U
  rw [← ez] at lz Z U
  rw [← ez] at hcc
  rw [← eo] at lo O U
  have HX := Lib.hid hx
  have HZ0 : Hid (x = 0 → z = 64) := Lib.hid (fun e => by rw [ez, e, Wd.low_zero])
  have HCC := Lib.hid hcc
  clear hcc hc hx ex el ez eo hT ha
  subst hn
  subst hop
  simp only [Int.reduceToNat] at hl
  have hx2 := HCC.out.1
  have hx1 : ((x : Int) == 0) = false := by simp [hx2]
  have hz := HCC.out.2
  have HX2 := Lib.hid hx2
  clear hx2 h0 h3 HCC HZ0 h
  go_enter Tryd.func11, Tryd.ntmps11
  go_wp2_with (first
    | (go_at_call 33; refine K.out.mono ?_; rintro e w1 ⟨rfl, rfl⟩)
    | (go_at_call 12; refine C.out.mono ?_; rintro e w1 ⟨rfl, rfl⟩)
    | (go_at_call 34; refine L.out.mono ?_; rintro e w1 ⟨rfl, rfl⟩)
    | (go_at_call 35; refine Z.out.mono ?_; rintro e w1 ⟨rfl, rfl⟩)
    | (go_at_call 36; refine O.out.mono ?_; rintro e w1 ⟨rfl, rfl⟩)
    | (go_at_call 37; refine (truth_any _ _).mono ?_; rintro e w1 ⟨rfl, rfl⟩))
  go_ret2
  refine ⟨?_, (Below.refl _ _).alloc (Nat.le_refl _) _⟩
  refine ret_pair ?_ rfl
  have U := U.out
  have HX2 := HX2.out
  first | rw [if_pos HX2] at U | rw [if_neg HX2] at U
  simp at U
  first
    | (rw [U]; done)
    | (rw [U]; omega)
    | (rw [U]; simp; done)
set_option maxHeartbeats 400000 in
set_option maxRecDepth 100000 in
theorem U64_1_1 (op n : Int) (a : Nat) (w : World) (h : Wd.ok n) (h0 : 0 ≤ op) (h3 : op ≤ 3) (hn : n = 64) (hop : op = 1) (hcc : Wd.cut n a ≠ 0 ∧ Wd.low 64 (Wd.cut n a) ≤ 32) (ha : a < 18446744073709551616) (hT : Tb w) :
    Calls Tryd.prog 11 #[.int .i64 op, .int .i64 n, .int .u64 a] w fun e w' =>
      e = .returned (.tuple #[.int .u64 ((uz op n a : Nat) : Int), .int .i64 0]) ∧ Below w.heap.size w w' := by
  have hc := Wd.cut_lt h ha
  have hl : Lib.bitLen (Wd.cut n a) ≤ n.toNat := Lib.bitLen_le _ _ (by rcases h with rfl | rfl <;> decide) (by rw [← Wd.md_pow h]; exact hc)
  have hx := Nat.lt_of_lt_of_le hc (Wd.md_le h)
  have K := Lib.hid (known_yes op 4 n w h h0 (by omega))
  have C := Lib.hid (Cut_any n a w)
  have U : Hid (uz op n a = if op = 0 then n.toNat - Lib.bitLen (Wd.cut n a) else if op = 1 then min (Wd.low 64 (Wd.cut n a)) n.toNat
  else if op = 2 then Wd.pop 64 (Wd.cut n a) else if Wd.cut n a = 0 then 1 else 0) := Lib.hid rfl
  obtain ⟨x, ex⟩ : ∃ x, x = Wd.cut n a := ⟨_, rfl⟩
  rw [← ex] at hl hx C U hcc
  have L := Lib.hid (Lz_any x w hx)
  have Z := Lib.hid (Tz_any x w hx hT)
  have O := Lib.hid (Ones_any x w hx)
  have lz : Wd.low 64 x ≤ 64 := by
    by_cases hz : x = 0
    · rw [hz, Wd.low_zero]; omega
    · have := (Wd.low_spec 64 x hx (by omega)).1; omega
  have lo := Wd.pop_le 64 x
  obtain ⟨l, el⟩ : ∃ l, l = Lib.bitLen x := ⟨_, rfl⟩
  obtain ⟨z, ez⟩ : ∃ z, z = Wd.low 64 x := ⟨_, rfl⟩
  obtain ⟨o, eo⟩ : ∃ o, o = Wd.pop 64 x := ⟨_, rfl⟩
  rw [← el] at hl L U
  rw [← ez] at lz Z U
  rw [← ez] at hcc
  rw [← eo] at lo O U
  have HX := Lib.hid hx
  have HZ0 : Hid (x = 0 → z = 64) := Lib.hid (fun e => by rw [ez, e, Wd.low_zero])
  have HCC := Lib.hid hcc
  clear hcc hc hx ex el ez eo hT ha
  subst hn
  subst hop
  simp only [Int.reduceToNat] at hl
  have hx2 := HCC.out.1
  have hx1 : ((x : Int) == 0) = false := by simp [hx2]
  have hz := HCC.out.2
  have HX2 := Lib.hid hx2
  clear hx2 h0 h3 HCC HZ0 h
  go_enter Tryd.func11, Tryd.ntmps11
  go_wp2_with (first
    | (go_at_call 33; refine K.out.mono ?_; rintro e w1 ⟨rfl, rfl⟩)
    | (go_at_call 12; refine C.out.mono ?_; rintro e w1 ⟨rfl, rfl⟩)
    | (go_at_call 34; refine L.out.mono ?_; rintro e w1 ⟨rfl, rfl⟩)
    | (go_at_call 35; refine Z.out.mono ?_; rintro e w1 ⟨rfl, rfl⟩)
    | (go_at_call 36; refine O.out.mono ?_; rintro e w1 ⟨rfl, rfl⟩)
    | (go_at_call 37; refine (truth_any _ _).mono ?_; rintro e w1 ⟨rfl, rfl⟩))
  go_ret2
  refine ⟨?_, (Below.refl _ _).alloc (Nat.le_refl _) _⟩
  refine ret_pair ?_ rfl
  have U := U.out
  have HX2 := HX2.out
  first | rw [if_pos HX2] at U | rw [if_neg HX2] at U
  simp at U
  first
    | (rw [U]; done)
    | (rw [U]; omega)
    | (rw [U]; simp; done)
set_option maxHeartbeats 400000 in
set_option maxRecDepth 100000 in
theorem U64_1_2 (op n : Int) (a : Nat) (w : World) (h : Wd.ok n) (h0 : 0 ≤ op) (h3 : op ≤ 3) (hn : n = 64) (hop : op = 2) (hcc : Wd.cut n a ≠ 0 ∧ Wd.low 64 (Wd.cut n a) ≤ 32) (ha : a < 18446744073709551616) (hT : Tb w) :
    Calls Tryd.prog 11 #[.int .i64 op, .int .i64 n, .int .u64 a] w fun e w' =>
      e = .returned (.tuple #[.int .u64 ((uz op n a : Nat) : Int), .int .i64 0]) ∧ Below w.heap.size w w' := by
  have hc := Wd.cut_lt h ha
  have hl : Lib.bitLen (Wd.cut n a) ≤ n.toNat := Lib.bitLen_le _ _ (by rcases h with rfl | rfl <;> decide) (by rw [← Wd.md_pow h]; exact hc)
  have hx := Nat.lt_of_lt_of_le hc (Wd.md_le h)
  have K := Lib.hid (known_yes op 4 n w h h0 (by omega))
  have C := Lib.hid (Cut_any n a w)
  have U : Hid (uz op n a = if op = 0 then n.toNat - Lib.bitLen (Wd.cut n a) else if op = 1 then min (Wd.low 64 (Wd.cut n a)) n.toNat
  else if op = 2 then Wd.pop 64 (Wd.cut n a) else if Wd.cut n a = 0 then 1 else 0) := Lib.hid rfl
  obtain ⟨x, ex⟩ : ∃ x, x = Wd.cut n a := ⟨_, rfl⟩
  rw [← ex] at hl hx C U hcc
  have L := Lib.hid (Lz_any x w hx)
  have Z := Lib.hid (Tz_any x w hx hT)
  have O := Lib.hid (Ones_any x w hx)
  have lz : Wd.low 64 x ≤ 64 := by
    by_cases hz : x = 0
    · rw [hz, Wd.low_zero]; omega
    · have := (Wd.low_spec 64 x hx (by omega)).1; omega
  have lo := Wd.pop_le 64 x
  obtain ⟨l, el⟩ : ∃ l, l = Lib.bitLen x := ⟨_, rfl⟩
  obtain ⟨z, ez⟩ : ∃ z, z = Wd.low 64 x := ⟨_, rfl⟩
  obtain ⟨o, eo⟩ : ∃ o, o = Wd.pop 64 x := ⟨_, rfl⟩
  rw [← el] at hl L U
  rw [← ez] at lz Z U
  rw [← ez] at hcc
  rw [← eo] at lo O U
  have HX := Lib.hid hx
  have HZ0 : Hid (x = 0 → z = 64) := Lib.hid (fun e => by rw [ez, e, Wd.low_zero])
  have HCC := Lib.hid hcc
  clear hcc hc hx ex el ez eo hT ha
  subst hn
  subst hop
  simp only [Int.reduceToNat] at hl
  have hx2 := HCC.out.1
  have hx1 : ((x : Int) == 0) = false := by simp [hx2]
  have hz := HCC.out.2
  have HX2 := Lib.hid hx2
  clear hx2 h0 h3 HCC HZ0 h
  go_enter Tryd.func11, Tryd.ntmps11
  go_wp2_with (first
    | (go_at_call 33; refine K.out.mono ?_; rintro e w1 ⟨rfl, rfl⟩)
    | (go_at_call 12; refine C.out.mono ?_; rintro e w1 ⟨rfl, rfl⟩)
    | (go_at_call 34; refine L.out.mono ?_; rintro e w1 ⟨rfl, rfl⟩)
    | (go_at_call 35; refine Z.out.mono ?_; rintro e w1 ⟨rfl, rfl⟩)
    | (go_at_call 36; refine O.out.mono ?_; rintro e w1 ⟨rfl, rfl⟩)
    | (go_at_call 37; refine (truth_any _ _).mono ?_; rintro e w1 ⟨rfl, rfl⟩))
  go_ret2
  refine ⟨?_, (Below.refl _ _).alloc (Nat.le_refl _) _⟩
  refine ret_pair ?_ rfl
  have U := U.out
  have HX2 := HX2.out
  first | rw [if_pos HX2] at U | rw [if_neg HX2] at U
  simp at U
  first
    | (rw [U]; done)
    | (rw [U]; omega)
    | (rw [U]; simp; done)
set_option maxHeartbeats 400000 in
set_option maxRecDepth 100000 in
theorem U64_1_3 (op n : Int) (a : Nat) (w : World) (h : Wd.ok n) (h0 : 0 ≤ op) (h3 : op ≤ 3) (hn : n = 64) (hop : op = 3) (hcc : Wd.cut n a ≠ 0 ∧ Wd.low 64 (Wd.cut n a) ≤ 32) (ha : a < 18446744073709551616) (hT : Tb w) :
    Calls Tryd.prog 11 #[.int .i64 op, .int .i64 n, .int .u64 a] w fun e w' =>
      e = .returned (.tuple #[.int .u64 ((uz op n a : Nat) : Int), .int .i64 0]) ∧ Below w.heap.size w w' := by
  have hc := Wd.cut_lt h ha
  have hl : Lib.bitLen (Wd.cut n a) ≤ n.toNat := Lib.bitLen_le _ _ (by rcases h with rfl | rfl <;> decide) (by rw [← Wd.md_pow h]; exact hc)
  have hx := Nat.lt_of_lt_of_le hc (Wd.md_le h)
  have K := Lib.hid (known_yes op 4 n w h h0 (by omega))
  have C := Lib.hid (Cut_any n a w)
  have U : Hid (uz op n a = if op = 0 then n.toNat - Lib.bitLen (Wd.cut n a) else if op = 1 then min (Wd.low 64 (Wd.cut n a)) n.toNat
  else if op = 2 then Wd.pop 64 (Wd.cut n a) else if Wd.cut n a = 0 then 1 else 0) := Lib.hid rfl
  obtain ⟨x, ex⟩ : ∃ x, x = Wd.cut n a := ⟨_, rfl⟩
  rw [← ex] at hl hx C U hcc
  have L := Lib.hid (Lz_any x w hx)
  have Z := Lib.hid (Tz_any x w hx hT)
  have O := Lib.hid (Ones_any x w hx)
  have lz : Wd.low 64 x ≤ 64 := by
    by_cases hz : x = 0
    · rw [hz, Wd.low_zero]; omega
    · have := (Wd.low_spec 64 x hx (by omega)).1; omega
  have lo := Wd.pop_le 64 x
  obtain ⟨l, el⟩ : ∃ l, l = Lib.bitLen x := ⟨_, rfl⟩
  obtain ⟨z, ez⟩ : ∃ z, z = Wd.low 64 x := ⟨_, rfl⟩
  obtain ⟨o, eo⟩ : ∃ o, o = Wd.pop 64 x := ⟨_, rfl⟩
  rw [← el] at hl L U
  rw [← ez] at lz Z U
  rw [← ez] at hcc
  rw [← eo] at lo O U
  have HX := Lib.hid hx
  have HZ0 : Hid (x = 0 → z = 64) := Lib.hid (fun e => by rw [ez, e, Wd.low_zero])
  have HCC := Lib.hid hcc
  clear hcc hc hx ex el ez eo hT ha
  subst hn
  subst hop
  simp only [Int.reduceToNat] at hl
  have hx2 := HCC.out.1
  have hx1 : ((x : Int) == 0) = false := by simp [hx2]
  have hz := HCC.out.2
  have HX2 := Lib.hid hx2
  clear hx2 h0 h3 HCC HZ0 h
  go_enter Tryd.func11, Tryd.ntmps11
  go_wp2_with (first
    | (go_at_call 33; refine K.out.mono ?_; rintro e w1 ⟨rfl, rfl⟩)
    | (go_at_call 12; refine C.out.mono ?_; rintro e w1 ⟨rfl, rfl⟩)
    | (go_at_call 34; refine L.out.mono ?_; rintro e w1 ⟨rfl, rfl⟩)
    | (go_at_call 35; refine Z.out.mono ?_; rintro e w1 ⟨rfl, rfl⟩)
    | (go_at_call 36; refine O.out.mono ?_; rintro e w1 ⟨rfl, rfl⟩)
    | (go_at_call 37; refine (truth_any _ _).mono ?_; rintro e w1 ⟨rfl, rfl⟩))
  go_ret2
  refine ⟨?_, (Below.refl _ _).alloc (Nat.le_refl _) _⟩
  refine ret_pair ?_ rfl
  have U := U.out
  have HX2 := HX2.out
  first | rw [if_pos HX2] at U | rw [if_neg HX2] at U
  simp at U
  first
    | (rw [U]; done)
    | (rw [U]; omega)
    | (rw [U]; simp; done)
set_option maxHeartbeats 400000 in
set_option maxRecDepth 100000 in
theorem U64_2_0 (op n : Int) (a : Nat) (w : World) (h : Wd.ok n) (h0 : 0 ≤ op) (h3 : op ≤ 3) (hn : n = 64) (hop : op = 0) (hcc : Wd.cut n a ≠ 0 ∧ 32 < Wd.low 64 (Wd.cut n a)) (ha : a < 18446744073709551616) (hT : Tb w) :
    Calls Tryd.prog 11 #[.int .i64 op, .int .i64 n, .int .u64 a] w fun e w' =>
      e = .returned (.tuple #[.int .u64 ((uz op n a : Nat) : Int), .int .i64 0]) ∧ Below w.heap.size w w' := by
  have hc := Wd.cut_lt h ha
  have hl : Lib.bitLen (Wd.cut n a) ≤ n.toNat := Lib.bitLen_le _ _ (by rcases h with rfl | rfl <;> decide) (by rw [← Wd.md_pow h]; exact hc)
  have hx := Nat.lt_of_lt_of_le hc (Wd.md_le h)
  have K := Lib.hid (known_yes op 4 n w h h0 (by omega))
  have C := Lib.hid (Cut_any n a w)
  have U : Hid (uz op n a = if op = 0 then n.toNat - Lib.bitLen (Wd.cut n a) else if op = 1 then min (Wd.low 64 (Wd.cut n a)) n.toNat
  else if op = 2 then Wd.pop 64 (Wd.cut n a) else if Wd.cut n a = 0 then 1 else 0) := Lib.hid rfl
  obtain ⟨x, ex⟩ : ∃ x, x = Wd.cut n a := ⟨_, rfl⟩
  rw [← ex] at hl hx C U hcc
  have L := Lib.hid (Lz_any x w hx)
  have Z := Lib.hid (Tz_any x w hx hT)
  have O := Lib.hid (Ones_any x w hx)
  have lz : Wd.low 64 x ≤ 64 := by
    by_cases hz : x = 0
    · rw [hz, Wd.low_zero]; omega
    · have := (Wd.low_spec 64 x hx (by omega)).1; omega
  have lo := Wd.pop_le 64 x
  obtain ⟨l, el⟩ : ∃ l, l = Lib.bitLen x := ⟨_, rfl⟩
  obtain ⟨z, ez⟩ : ∃ z, z = Wd.low 64 x := ⟨_, rfl⟩
  obtain ⟨o, eo⟩ : ∃ o, o = Wd.pop 64 x := ⟨_, rfl⟩
  rw [← el] at hl L U
  rw [← ez] at lz Z U
  rw [← ez] at hcc
  rw [← eo] at lo O U
  have HX := Lib.hid hx
  have HZ0 : Hid (x = 0 → z = 64) := Lib.hid (fun e => by rw [ez, e, Wd.low_zero])
  have HCC := Lib.hid hcc
  clear hcc hc hx ex el ez eo hT ha
  subst hn
  subst hop
  simp only [Int.reduceToNat] at hl
  have hx2 := HCC.out.1
  have hx1 : ((x : Int) == 0) = false := by simp [hx2]
  have hz := HCC.out.2
  have HX2 := Lib.hid hx2
  clear hx2 h0 h3 HCC HZ0 h
  go_enter Tryd.func11, Tryd.ntmps11
  go_wp2_with (first
    | (go_at_call 33; refine K.out.mono ?_; rintro e w1 ⟨rfl, rfl⟩)
    | (go_at_call 12; refine C.out.mono ?_; rintro e w1 ⟨rfl, rfl⟩)
    | (go_at_call 34; refine L.out.mono ?_; rintro e w1 ⟨rfl, rfl⟩)
    | (go_at_call 35; refine Z.out.mono ?_; rintro e w1 ⟨rfl, rfl⟩)
    | (go_at_call 36; refine O.out.mono ?_; rintro e w1 ⟨rfl, rfl⟩)
    | (go_at_call 37; refine (truth_any _ _).mono ?_; rintro e w1 ⟨rfl, rfl⟩))
  go_ret2
  refine ⟨?_, (Below.refl _ _).alloc (Nat.le_refl _) _⟩
  refine ret_pair ?_ rfl
  have U := U.out
  have HX2 := HX2.out
  first | rw [if_pos HX2] at U | rw [if_neg HX2] at U
  simp at U
  first
    | (rw [U]; done)
    | (rw [U]; omega)
    | (rw [U]; simp; done)
set_option maxHeartbeats 400000 in
set_option maxRecDepth 100000 in
theorem U64_2_1 (op n : Int) (a : Nat) (w : World) (h : Wd.ok n) (h0 : 0 ≤ op) (h3 : op ≤ 3) (hn : n = 64) (hop : op = 1) (hcc : Wd.cut n a ≠ 0 ∧ 32 < Wd.low 64 (Wd.cut n a)) (ha : a < 18446744073709551616) (hT : Tb w) :
    Calls Tryd.prog 11 #[.int .i64 op, .int .i64 n, .int .u64 a] w fun e w' =>
      e = .returned (.tuple #[.int .u64 ((uz op n a : Nat) : Int), .int .i64 0]) ∧ Below w.heap.size w w' := by
  have hc := Wd.cut_lt h ha
  have hl : Lib.bitLen (Wd.cut n a) ≤ n.toNat := Lib.bitLen_le _ _ (by rcases h with rfl | rfl <;> decide) (by rw [← Wd.md_pow h]; exact hc)
  have hx := Nat.lt_of_lt_of_le hc (Wd.md_le h)
  have K := Lib.hid (known_yes op 4 n w h h0 (by omega))
  have C := Lib.hid (Cut_any n a w)
  have U : Hid (uz op n a = if op = 0 then n.toNat - Lib.bitLen (Wd.cut n a) else if op = 1 then min (Wd.low 64 (Wd.cut n a)) n.toNat
  else if op = 2 then Wd.pop 64 (Wd.cut n a) else if Wd.cut n a = 0 then 1 else 0) := Lib.hid rfl
  obtain ⟨x, ex⟩ : ∃ x, x = Wd.cut n a := ⟨_, rfl⟩
  rw [← ex] at hl hx C U hcc
  have L := Lib.hid (Lz_any x w hx)
  have Z := Lib.hid (Tz_any x w hx hT)
  have O := Lib.hid (Ones_any x w hx)
  have lz : Wd.low 64 x ≤ 64 := by
    by_cases hz : x = 0
    · rw [hz, Wd.low_zero]; omega
    · have := (Wd.low_spec 64 x hx (by omega)).1; omega
  have lo := Wd.pop_le 64 x
  obtain ⟨l, el⟩ : ∃ l, l = Lib.bitLen x := ⟨_, rfl⟩
  obtain ⟨z, ez⟩ : ∃ z, z = Wd.low 64 x := ⟨_, rfl⟩
  obtain ⟨o, eo⟩ : ∃ o, o = Wd.pop 64 x := ⟨_, rfl⟩
  rw [← el] at hl L U
  rw [← ez] at lz Z U
  rw [← ez] at hcc
  rw [← eo] at lo O U
  have HX := Lib.hid hx
  have HZ0 : Hid (x = 0 → z = 64) := Lib.hid (fun e => by rw [ez, e, Wd.low_zero])
  have HCC := Lib.hid hcc
  clear hcc hc hx ex el ez eo hT ha
  subst hn
  subst hop
  simp only [Int.reduceToNat] at hl
  have hx2 := HCC.out.1
  have hx1 : ((x : Int) == 0) = false := by simp [hx2]
  have hz := HCC.out.2
  have HX2 := Lib.hid hx2
  clear hx2 h0 h3 HCC HZ0 h
  go_enter Tryd.func11, Tryd.ntmps11
  go_wp2_with (first
    | (go_at_call 33; refine K.out.mono ?_; rintro e w1 ⟨rfl, rfl⟩)
    | (go_at_call 12; refine C.out.mono ?_; rintro e w1 ⟨rfl, rfl⟩)
    | (go_at_call 34; refine L.out.mono ?_; rintro e w1 ⟨rfl, rfl⟩)
    | (go_at_call 35; refine Z.out.mono ?_; rintro e w1 ⟨rfl, rfl⟩)
    | (go_at_call 36; refine O.out.mono ?_; rintro e w1 ⟨rfl, rfl⟩)
    | (go_at_call 37; refine (truth_any _ _).mono ?_; rintro e w1 ⟨rfl, rfl⟩))
  go_ret2
  refine ⟨?_, (Below.refl _ _).alloc (Nat.le_refl _) _⟩
  refine ret_pair ?_ rfl
  have U := U.out
  have HX2 := HX2.out
  first | rw [if_pos HX2] at U | rw [if_neg HX2] at U
  simp at U
  first
    | (rw [U]; done)
    | (rw [U]; omega)
    | (rw [U]; simp; done)
set_option maxHeartbeats 400000 in
set_option maxRecDepth 100000 in
theorem U64_2_2 (op n : Int) (a : Nat) (w : World) (h : Wd.ok n) (h0 : 0 ≤ op) (h3 : op ≤ 3) (hn : n = 64) (hop : op = 2) (hcc : Wd.cut n a ≠ 0 ∧ 32 < Wd.low 64 (Wd.cut n a)) (ha : a < 18446744073709551616) (hT : Tb w) :
    Calls Tryd.prog 11 #[.int .i64 op, .int .i64 n, .int .u64 a] w fun e w' =>
      e = .returned (.tuple #[.int .u64 ((uz op n a : Nat) : Int), .int .i64 0]) ∧ Below w.heap.size w w' := by
  have hc := Wd.cut_lt h ha
  have hl : Lib.bitLen (Wd.cut n a) ≤ n.toNat := Lib.bitLen_le _ _ (by rcases h with rfl | rfl <;> decide) (by rw [← Wd.md_pow h]; exact hc)
  have hx := Nat.lt_of_lt_of_le hc (Wd.md_le h)
  have K := Lib.hid (known_yes op 4 n w h h0 (by omega))
  have C := Lib.hid (Cut_any n a w)
  have U : Hid (uz op n a = if op = 0 then n.toNat - Lib.bitLen (Wd.cut n a) else if op = 1 then min (Wd.low 64 (Wd.cut n a)) n.toNat
  else if op = 2 then Wd.pop 64 (Wd.cut n a) else if Wd.cut n a = 0 then 1 else 0) := Lib.hid rfl
  obtain ⟨x, ex⟩ : ∃ x, x = Wd.cut n a := ⟨_, rfl⟩
  rw [← ex] at hl hx C U hcc
  have L := Lib.hid (Lz_any x w hx)
  have Z := Lib.hid (Tz_any x w hx hT)
  have O := Lib.hid (Ones_any x w hx)
  have lz : Wd.low 64 x ≤ 64 := by
    by_cases hz : x = 0
    · rw [hz, Wd.low_zero]; omega
    · have := (Wd.low_spec 64 x hx (by omega)).1; omega
  have lo := Wd.pop_le 64 x
  obtain ⟨l, el⟩ : ∃ l, l = Lib.bitLen x := ⟨_, rfl⟩
  obtain ⟨z, ez⟩ : ∃ z, z = Wd.low 64 x := ⟨_, rfl⟩
  obtain ⟨o, eo⟩ : ∃ o, o = Wd.pop 64 x := ⟨_, rfl⟩
  rw [← el] at hl L U
  rw [← ez] at lz Z U
  rw [← ez] at hcc
  rw [← eo] at lo O U
  have HX := Lib.hid hx
  have HZ0 : Hid (x = 0 → z = 64) := Lib.hid (fun e => by rw [ez, e, Wd.low_zero])
  have HCC := Lib.hid hcc
  clear hcc hc hx ex el ez eo hT ha
  subst hn
  subst hop
  simp only [Int.reduceToNat] at hl
  have hx2 := HCC.out.1
  have hx1 : ((x : Int) == 0) = false := by simp [hx2]
  have hz := HCC.out.2
  have HX2 := Lib.hid hx2
  clear hx2 h0 h3 HCC HZ0 h
  go_enter Tryd.func11, Tryd.ntmps11
  go_wp2_with (first
    | (go_at_call 33; refine K.out.mono ?_; rintro e w1 ⟨rfl, rfl⟩)
    | (go_at_call 12; refine C.out.mono ?_; rintro e w1 ⟨rfl, rfl⟩)
    | (go_at_call 34; refine L.out.mono ?_; rintro e w1 ⟨rfl, rfl⟩)
    | (go_at_call 35; refine Z.out.mono ?_; rintro e w1 ⟨rfl, rfl⟩)
    | (go_at_call 36; refine O.out.mono ?_; rintro e w1 ⟨rfl, rfl⟩)
    | (go_at_call 37; refine (truth_any _ _).mono ?_; rintro e w1 ⟨rfl, rfl⟩))
  go_ret2
  refine ⟨?_, (Below.refl _ _).alloc (Nat.le_refl _) _⟩
  refine ret_pair ?_ rfl
  have U := U.out
  have HX2 := HX2.out
  first | rw [if_pos HX2] at U | rw [if_neg HX2] at U
  simp at U
  first
    | (rw [U]; done)
    | (rw [U]; omega)
    | (rw [U]; simp; done)
set_option maxHeartbeats 400000 in
set_option maxRecDepth 100000 in
theorem U64_2_3 (op n : Int) (a : Nat) (w : World) (h : Wd.ok n) (h0 : 0 ≤ op) (h3 : op ≤ 3) (hn : n = 64) (hop : op = 3) (hcc : Wd.cut n a ≠ 0 ∧ 32 < Wd.low 64 (Wd.cut n a)) (ha : a < 18446744073709551616) (hT : Tb w) :
    Calls Tryd.prog 11 #[.int .i64 op, .int .i64 n, .int .u64 a] w fun e w' =>
      e = .returned (.tuple #[.int .u64 ((uz op n a : Nat) : Int), .int .i64 0]) ∧ Below w.heap.size w w' := by
  have hc := Wd.cut_lt h ha
  have hl : Lib.bitLen (Wd.cut n a) ≤ n.toNat := Lib.bitLen_le _ _ (by rcases h with rfl | rfl <;> decide) (by rw [← Wd.md_pow h]; exact hc)
  have hx := Nat.lt_of_lt_of_le hc (Wd.md_le h)
  have K := Lib.hid (known_yes op 4 n w h h0 (by omega))
  have C := Lib.hid (Cut_any n a w)
  have U : Hid (uz op n a = if op = 0 then n.toNat - Lib.bitLen (Wd.cut n a) else if op = 1 then min (Wd.low 64 (Wd.cut n a)) n.toNat
  else if op = 2 then Wd.pop 64 (Wd.cut n a) else if Wd.cut n a = 0 then 1 else 0) := Lib.hid rfl
  obtain ⟨x, ex⟩ : ∃ x, x = Wd.cut n a := ⟨_, rfl⟩
  rw [← ex] at hl hx C U hcc
  have L := Lib.hid (Lz_any x w hx)
  have Z := Lib.hid (Tz_any x w hx hT)
  have O := Lib.hid (Ones_any x w hx)
  have lz : Wd.low 64 x ≤ 64 := by
    by_cases hz : x = 0
    · rw [hz, Wd.low_zero]; omega
    · have := (Wd.low_spec 64 x hx (by omega)).1; omega
  have lo := Wd.pop_le 64 x
  obtain ⟨l, el⟩ : ∃ l, l = Lib.bitLen x := ⟨_, rfl⟩
  obtain ⟨z, ez⟩ : ∃ z, z = Wd.low 64 x := ⟨_, rfl⟩
  obtain ⟨o, eo⟩ : ∃ o, o = Wd.pop 64 x := ⟨_, rfl⟩
  rw [← el] at hl L U
  rw [← ez] at lz Z U
  rw [← ez] at hcc
  rw [← eo] at lo O U
  have HX := Lib.hid hx
  have HZ0 : Hid (x = 0 → z = 64) := Lib.hid (fun e => by rw [ez, e, Wd.low_zero])
  have HCC := Lib.hid hcc
  clear hcc hc hx ex el ez eo hT ha
  subst hn
  subst hop
  simp only [Int.reduceToNat] at hl
  have hx2 := HCC.out.1
  have hx1 : ((x : Int) == 0) = false := by simp [hx2]
  have hz := HCC.out.2
  have HX2 := Lib.hid hx2
  clear hx2 h0 h3 HCC HZ0 h
  go_enter Tryd.func11, Tryd.ntmps11
  go_wp2_with (first
    | (go_at_call 33; refine K.out.mono ?_; rintro e w1 ⟨rfl, rfl⟩)
    | (go_at_call 12; refine C.out.mono ?_; rintro e w1 ⟨rfl, rfl⟩)
    | (go_at_call 34; refine L.out.mono ?_; rintro e w1 ⟨rfl, rfl⟩)
    | (go_at_call 35; refine Z.out.mono ?_; rintro e w1 ⟨rfl, rfl⟩)
    | (go_at_call 36; refine O.out.mono ?_; rintro e w1 ⟨rfl, rfl⟩)
    | (go_at_call 37; refine (truth_any _ _).mono ?_; rintro e w1 ⟨rfl, rfl⟩))
  go_ret2
  refine ⟨?_, (Below.refl _ _).alloc (Nat.le_refl _) _⟩
  refine ret_pair ?_ rfl
  have U := U.out
  have HX2 := HX2.out
  first | rw [if_pos HX2] at U | rw [if_neg HX2] at U
  simp at U
  first
    | (rw [U]; done)
    | (rw [U]; omega)
    | (rw [U]; simp; done)
theorem Unary_ok (op n : Int) (a : Nat) (w : World) (h : Wd.ok n) (h0 : 0 ≤ op) (h3 : op ≤ 3) (ha : a < 18446744073709551616) (hT : Tb w) :
    Calls Tryd.prog 11 #[.int .i64 op, .int .i64 n, .int .u64 a] w fun e w' =>
      e = .returned (.tuple #[.int .u64 ((uz op n a : Nat) : Int), .int .i64 0]) ∧ Below w.heap.size w w' := by
  have hc : Wd.cut n a = 0 ∨ (Wd.cut n a ≠ 0 ∧ Wd.low 64 (Wd.cut n a) ≤ 32) ∨ (Wd.cut n a ≠ 0 ∧ 32 < Wd.low 64 (Wd.cut n a)) := by omega
  rcases id h with hn | hn
  · rcases hc with hc | hc | hc
    · rcases (by omega : op = 0 ∨ op = 1 ∨ op = 2 ∨ op = 3) with ho | ho | ho | ho
      · exact U32_0_0 op n a w h h0 h3 hn ho hc ha hT
      · exact U32_0_1 op n a w h h0 h3 hn ho hc ha hT
      · exact U32_0_2 op n a w h h0 h3 hn ho hc ha hT
      · exact U32_0_3 op n a w h h0 h3 hn ho hc ha hT
    · rcases (by omega : op = 0 ∨ op = 1 ∨ op = 2 ∨ op = 3) with ho | ho | ho | ho
      · exact U32_1_0 op n a w h h0 h3 hn ho hc ha hT
      · exact U32_1_1 op n a w h h0 h3 hn ho hc ha hT
      · exact U32_1_2 op n a w h h0 h3 hn ho hc ha hT
      · exact U32_1_3 op n a w h h0 h3 hn ho hc ha hT
    · rcases (by omega : op = 0 ∨ op = 1 ∨ op = 2 ∨ op = 3) with ho | ho | ho | ho
      · exact U32_2_0 op n a w h h0 h3 hn ho hc ha hT
      · exact U32_2_1 op n a w h h0 h3 hn ho hc ha hT
      · exact U32_2_2 op n a w h h0 h3 hn ho hc ha hT
      · exact U32_2_3 op n a w h h0 h3 hn ho hc ha hT
  · rcases hc with hc | hc | hc
    · rcases (by omega : op = 0 ∨ op = 1 ∨ op = 2 ∨ op = 3) with ho | ho | ho | ho
      · exact U64_0_0 op n a w h h0 h3 hn ho hc ha hT
      · exact U64_0_1 op n a w h h0 h3 hn ho hc ha hT
      · exact U64_0_2 op n a w h h0 h3 hn ho hc ha hT
      · exact U64_0_3 op n a w h h0 h3 hn ho hc ha hT
    · rcases (by omega : op = 0 ∨ op = 1 ∨ op = 2 ∨ op = 3) with ho | ho | ho | ho
      · exact U64_1_0 op n a w h h0 h3 hn ho hc ha hT
      · exact U64_1_1 op n a w h h0 h3 hn ho hc ha hT
      · exact U64_1_2 op n a w h h0 h3 hn ho hc ha hT
      · exact U64_1_3 op n a w h h0 h3 hn ho hc ha hT
    · rcases (by omega : op = 0 ∨ op = 1 ∨ op = 2 ∨ op = 3) with ho | ho | ho | ho
      · exact U64_2_0 op n a w h h0 h3 hn ho hc ha hT
      · exact U64_2_1 op n a w h h0 h3 hn ho hc ha hT
      · exact U64_2_2 op n a w h h0 h3 hn ho hc ha hT
      · exact U64_2_3 op n a w h h0 h3 hn ho hc ha hT
end Go.Proofs.YtmbnaejoiglckaaDoor
