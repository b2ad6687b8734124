/-
  Names; numbers of things; how many functions.
-/
import Derived.Test.YtackompihengfaaFl
import Derived.PlainAid
namespace Go.Proofs.Ytackompihengfaa
open Go.RowKit Go.PlainAid
set_option linter.unusedVariables false
set_option linter.unusedSimpArgs false
/-- a byte that may stand in a name -/
def nmC (c : Int) : Bool := decide (33 ≤ c) && decide (c ≤ 126)
/-- may a text be a name? -/
def nmB (s : ByteArray) : Bool := decide (0 < s.size) && decide (s.size ≤ 30) && ((List.range s.size).all fun i => nmC (bt s i))
theorem range_all {n : Nat} {f : Nat → Bool} (h : ∀ i, i < n → f i = true) : (List.range n).all f = true := List.all_eq_true.2 (fun i hi => h i (List.mem_range.1 hi))
theorem range_not {n k : Nat} {f : Nat → Bool} (hk : k < n) (h : f k = false) : (List.range n).all f = false := List.all_eq_false.2 ⟨k, List.mem_range.2 hk, by rw [h]; simp⟩
theorem nmB_no {s : ByteArray} {k : Nat} (hk : k < s.size) (h : nmC (bt s k) = false) : nmB s = false := by
  unfold nmB; rw [range_not hk h, Bool.and_false]
theorem nmB_yes {s : ByteArray} (h0 : 0 < s.size) (h1 : s.size ≤ 30) (h : ∀ i, i < s.size → nmC (bt s i) = true) : nmB s = true := by
  unfold nmB; rw [range_all h]; simp [h0, h1]
set_option maxHeartbeats 4000000 in
set_option maxRecDepth 100000 in
theorem in_any (a n : Int) (w : World) : Calls Try.prog 15 #[.int .i64 a, .int .i64 n] w fun e w' => e = .returned (.bool (decide (0 ≤ a) && decide (a < n))) ∧ w = w' := by
  by_cases h : 0 ≤ a <;> by_cases h2 : a < n <;> simp only [h, h2, decide_true, decide_false, Bool.and_true, Bool.and_false, Bool.false_and, Bool.true_and] <;>
  · go_enter Try.func15, Try.ntmps15
    go_wp2
    go_ret
    exact ⟨rfl, rfl⟩
set_option maxHeartbeats 4000000 in
set_option maxRecDepth 100000 in
/-- the law's own -/
theorem named_any (s : ByteArray) (hs : s.size ≤ 1000) (w : World) : Calls Try.prog 12 #[.string s] w fun e w' => e = .returned (.bool (nmB s)) ∧ w = w' := by
  have hb := get_bt s
  obtain ⟨tot, htot⟩ : ∃ tot, tot = nmB s := ⟨_, rfl⟩
  rw [← htot]
  have HT := Lib.hid htot
  clear htot
  go_enter Try.func12, Try.ntmps12
  go_wp2
  go_loop [3] (fun v3 => ∃ k : Nat, k ≤ s.size ∧ v3 = .int .i64 k ∧ Hid (∀ i, i < k → nmC (bt s i) = true)) (fun v3 => s.size - (intOf v3).toNat)
  case atStart => exact ⟨0, Nat.zero_le _, rfl, Lib.hid (fun i hi => by omega)⟩
  case round =>
    obtain ⟨k, hk, rfl, HA⟩ := hrel
    by_cases hlt : k < s.size
    · have HN : Hid (nmC (bt s k) = false → tot = false) := Lib.hid (fun h => by rw [HT.out]; exact nmB_no hlt h)
      have HY : Hid (nmC (bt s k) = true → ∀ i, i < k + 1 → nmC (bt s i) = true) := Lib.hid (fun h => fun i hi => by
        by_cases e : i = k
        · subst e; exact h
        · exact HA.out i (by omega))
      obtain ⟨c, hc⟩ : ∃ c, c = bt s k := ⟨_, rfl⟩
      have hx := hb k hlt
      rw [← hc] at HN HY hx
      by_cases h1 : c < 33
      · have HR : Hid (tot = false) := Lib.hid (HN.out (by unfold nmC; simp; omega))
        go_wp2
        go_ret
        exact ⟨by rw [HR.out]; rfl, rfl⟩
      · by_cases h2 : 126 < c
        · have HR : Hid (tot = false) := Lib.hid (HN.out (by unfold nmC; simp; omega))
          go_wp2
          go_ret
          exact ⟨by rw [HR.out]; rfl, rfl⟩
        · have HR := Lib.hid (HY.out (by unfold nmC; simp; omega))
          go_wp2
          go_round
          case rel => exact ⟨k + 1, by omega, by go_num, HR⟩
          case measure => simp [intOf]; omega
    · obtain rfl : k = s.size := by omega
      by_cases h0 : s.size = 0
      · have HR : Hid (tot = false) := Lib.hid (by rw [HT.out]; unfold nmB; rw [h0]; rfl)
        go_wp2
        go_ret
        exact ⟨by rw [HR.out]; rfl, rfl⟩
      · by_cases h30 : s.size ≤ 30
        · have HR : Hid (tot = true) := Lib.hid (by rw [HT.out]; exact nmB_yes (by omega) h30 HA.out)
          have h00 : 0 < s.size := by omega
          have e30 : decide ((s.size : Int) ≤ 30) = true := by rw [decide_eq_true_eq]; omega
          go_wp2
          go_ret
          exact ⟨by rw [HR.out]; rfl, rfl⟩
        · have HR : Hid (tot = false) := Lib.hid (by rw [HT.out]; unfold nmB; simp; omega)
          have h00 : 0 < s.size := by omega
          have e30 : decide ((s.size : Int) ≤ 30) = false := by rw [decide_eq_false_iff_not]; omega
          go_wp2
          go_ret
          exact ⟨by rw [HR.out]; rfl, rfl⟩
set_option maxHeartbeats 4000000 in
set_option maxRecDepth 100000 in
theorem Named_any (s : ByteArray) (hs : s.size ≤ 1000) (w : World) : Calls Try.prog 11 #[.string s] w fun e w' => e = .returned (.bool (nmB s)) ∧ w = w' := by
  have hb := get_bt s
  obtain ⟨tot, htot⟩ : ∃ tot, tot = nmB s := ⟨_, rfl⟩
  rw [← htot]
  have HT := Lib.hid htot
  clear htot
  by_cases h0 : s.size = 0
  · have HR : Hid (tot = false) := Lib.hid (by rw [HT.out]; unfold nmB; rw [h0]; rfl)
    have hs0 : s = ⟨#[]⟩ := by
      apply ByteArray.ext
      exact Array.eq_empty_of_size_eq_zero h0
    subst hs0
    go_enter Try.func11, Try.ntmps11
    go_wp2
    go_ret
    exact ⟨by rw [HR.out]; rfl, rfl⟩
  · have hl0 : s.toList ≠ [] := fun h => h0 (by have h2 := congrArg List.length h; rw [ByteArray.toList_eq, Array.length_toList] at h2; exact h2)
    have q1 : s.toList.isEmpty = false := by
      cases hx : s.toList with
      | nil => exact absurd hx hl0
      | cons a l => rfl
    have h00 : 0 < s.size := by omega
    by_cases h30 : s.size ≤ 30
    · go_enter Try.func11, Try.ntmps11
      go_wp2
      go_loop [3, 13] (fun _ v13 => ∃ k : Nat, k ≤ s.size ∧ v13 = .int .i64 k ∧ Hid (∀ i, i < k → nmC (bt s i) = true)) (fun _ v13 => s.size - (intOf v13).toNat)
      case atStart => exact ⟨0, Nat.zero_le _, rfl, Lib.hid (fun i hi => by omega)⟩
      case round =>
        obtain ⟨k, hk, rfl, HA⟩ := hrel
        by_cases hlt : k < s.size
        · have HN : Hid (nmC (bt s k) = false → tot = false) := Lib.hid (fun h => by rw [HT.out]; exact nmB_no hlt h)
          have HY : Hid (nmC (bt s k) = true → ∀ i, i < k + 1 → nmC (bt s i) = true) := Lib.hid (fun h => fun i hi => by
            by_cases e : i = k
            · subst e; exact h
            · exact HA.out i (by omega))
          obtain ⟨c, hc⟩ : ∃ c, c = bt s k := ⟨_, rfl⟩
          have hx := hb k hlt
          rw [← hc] at HN HY hx
          by_cases h1 : c < 33
          · have HR : Hid (tot = false) := Lib.hid (HN.out (by unfold nmC; simp; omega))
            go_wp2
            go_ret
            exact ⟨by rw [HR.out]; rfl, rfl⟩
          · by_cases h2 : 126 < c
            · have HR : Hid (tot = false) := Lib.hid (HN.out (by unfold nmC; simp; omega))
              go_wp2
              go_ret
              exact ⟨by rw [HR.out]; rfl, rfl⟩
            · have HR := Lib.hid (HY.out (by unfold nmC; simp; omega))
              go_wp2
              go_round
              case rel => exact ⟨k + 1, by omega, by go_num, HR⟩
              case measure => simp [intOf]; omega
        · obtain rfl : k = s.size := by omega
          have HR : Hid (tot = true) := Lib.hid (by rw [HT.out]; exact nmB_yes (by omega) h30 HA.out)
          go_wp2
          go_ret
          exact ⟨by rw [HR.out]; rfl, rfl⟩
    · have HR : Hid (tot = false) := Lib.hid (by rw [HT.out]; unfold nmB; simp; omega)
      go_enter Try.func11, Try.ntmps11
      go_wp2
      go_ret
      exact ⟨by rw [HR.out]; rfl, rfl⟩
end Go.Proofs.Ytackompihengfaa
