/-
  conv.Load; a word's bytes, read, extended, and told again (facts).
-/
import Derived.Test.YtmbnaejoiglckaaDoorCe
namespace Go.Proofs.YtmbnaejoiglckaaDoor
open Go.RowKit
set_option linter.unusedVariables false
theorem wv_congr (f g : Nat → Nat) : ∀ k, (∀ i, i < k → f i = g i) → wv f k = wv g k
  | 0, _ => rfl
  | k + 1, h => by
    unfold wv
    rw [wv_congr f g k (fun i hi => h i (by omega)), h k (by omega)]
theorem wv_bys (a k : Nat) : wv (fun i => (bys a k).getD i 0) k = a % 2 ^ (8 * k) := by
  rw [← wv_by a k]
  apply wv_congr
  intro i hi
  unfold bys
  rw [List.getD_eq_getElem?_getD, List.getElem?_map, List.getElem?_range hi]
  rfl
theorem by_mod (a k i : Nat) (h : i < k) : by_ (a % 2 ^ (8 * k)) i = by_ a i := by
  unfold by_
  obtain ⟨m, hm⟩ : ∃ m, k = i + (m + 1) := ⟨k - i - 1, by omega⟩
  have e : 2 ^ (8 * k) = 2 ^ (8 * i) * (256 * 2 ^ (8 * m)) := by
    rw [hm, show 8 * (i + (m + 1)) = 8 * i + (8 + 8 * m) from by omega, Nat.pow_add, Nat.pow_add]
  rw [e, Nat.mod_mul_right_div_self, Nat.mod_mul_right_mod]
theorem bys_of_mod (x a k : Nat) (h : x % 2 ^ (8 * k) = a % 2 ^ (8 * k)) : bys x k = bys a k := by
  unfold bys
  apply List.map_congr_left
  intro i hi
  have hi' := List.mem_range.1 hi
  rw [← by_mod x k i hi', ← by_mod a k i hi', h]
set_option maxHeartbeats 1000000 in
set_option maxRecDepth 100000 in
theorem Load_1_32 (A : Option Addr) (cap : Nat) (l : List Nat) (s : Bool) (w : World) (hb : Byt w A 1 cap l) :
    Calls Tryd.prog 25 #[.slice A 1 cap, .int .i64 32, .bool s] w fun e w' => e = .returned (.tuple #[.int .u64 ((exv 8 32 s (wv (fun i => l.getD i 0) 1) : Nat) : Int), .int .i64 0]) ∧ w = w' := by
  have hlt : ∀ i, l.getD i 0 < 256 := fun i => by
    by_cases q : i < l.length
    · rw [List.getD_eq_getElem?_getD, List.getElem?_eq_getElem q]; exact hb.2.1 _ (List.getElem_mem q)
    · rw [List.getD_eq_getElem?_getD, List.getElem?_eq_none (by omega)]; decide
  have hv := wv_lt (fun i => l.getD i 0) 1 (fun i _ => hlt i)
  have hv2 : wv (fun i => l.getD i 0) 1 < 18446744073709551616 := Nat.lt_of_lt_of_le hv (by decide)
  have W := Lib.hid (Word_ok A 1 cap l w (by decide) hb)
  have hcap : 1 ≤ cap := hb.2.2.1
  have hcap2 : cap ≤ 9223372036854775807 := by have := hb.2.2.2.1; unfold maxLen at this; omega
  obtain ⟨v, ev⟩ : ∃ v, v = wv (fun i => l.getD i 0) 1 := ⟨_, rfl⟩
  rw [← ev] at W hv2 ⊢
  have E := Lib.hid (ex_8_32 s v w hv2)
  have M := Lib.hid (wide_yes 32 w (.inl rfl))
  clear hb hlt hv ev
  go_enter Tryd.func25, Tryd.ntmps25
  go_wp2_with (first
    | (go_at_call 24; refine W.out.mono ?_; rintro e w1 ⟨rfl, rfl⟩)
    | (go_at_call 41; refine M.out.mono ?_; rintro e w1 ⟨rfl, rfl⟩)
    | (go_at_call 42; refine E.out.mono ?_; rintro e w1 ⟨rfl, rfl⟩))
  go_ret2
  exact ⟨rfl, rfl⟩
set_option maxHeartbeats 1000000 in
set_option maxRecDepth 100000 in
theorem Load_1_64 (A : Option Addr) (cap : Nat) (l : List Nat) (s : Bool) (w : World) (hb : Byt w A 1 cap l) :
    Calls Tryd.prog 25 #[.slice A 1 cap, .int .i64 64, .bool s] w fun e w' => e = .returned (.tuple #[.int .u64 ((exv 8 64 s (wv (fun i => l.getD i 0) 1) : Nat) : Int), .int .i64 0]) ∧ w = w' := by
  have hlt : ∀ i, l.getD i 0 < 256 := fun i => by
    by_cases q : i < l.length
    · rw [List.getD_eq_getElem?_getD, List.getElem?_eq_getElem q]; exact hb.2.1 _ (List.getElem_mem q)
    · rw [List.getD_eq_getElem?_getD, List.getElem?_eq_none (by omega)]; decide
  have hv := wv_lt (fun i => l.getD i 0) 1 (fun i _ => hlt i)
  have hv2 : wv (fun i => l.getD i 0) 1 < 18446744073709551616 := Nat.lt_of_lt_of_le hv (by decide)
  have W := Lib.hid (Word_ok A 1 cap l w (by decide) hb)
  have hcap : 1 ≤ cap := hb.2.2.1
  have hcap2 : cap ≤ 9223372036854775807 := by have := hb.2.2.2.1; unfold maxLen at this; omega
  obtain ⟨v, ev⟩ : ∃ v, v = wv (fun i => l.getD i 0) 1 := ⟨_, rfl⟩
  rw [← ev] at W hv2 ⊢
  have E := Lib.hid (ex_8_64 s v w hv2)
  have M := Lib.hid (wide_yes 64 w (.inr rfl))
  clear hb hlt hv ev
  go_enter Tryd.func25, Tryd.ntmps25
  go_wp2_with (first
    | (go_at_call 24; refine W.out.mono ?_; rintro e w1 ⟨rfl, rfl⟩)
    | (go_at_call 41; refine M.out.mono ?_; rintro e w1 ⟨rfl, rfl⟩)
    | (go_at_call 42; refine E.out.mono ?_; rintro e w1 ⟨rfl, rfl⟩))
  go_ret2
  exact ⟨rfl, rfl⟩
set_option maxHeartbeats 1000000 in
set_option maxRecDepth 100000 in
theorem Load_2_32 (A : Option Addr) (cap : Nat) (l : List Nat) (s : Bool) (w : World) (hb : Byt w A 2 cap l) :
    Calls Tryd.prog 25 #[.slice A 2 cap, .int .i64 32, .bool s] w fun e w' => e = .returned (.tuple #[.int .u64 ((exv 16 32 s (wv (fun i => l.getD i 0) 2) : Nat) : Int), .int .i64 0]) ∧ w = w' := by
  have hlt : ∀ i, l.getD i 0 < 256 := fun i => by
    by_cases q : i < l.length
    · rw [List.getD_eq_getElem?_getD, List.getElem?_eq_getElem q]; exact hb.2.1 _ (List.getElem_mem q)
    · rw [List.getD_eq_getElem?_getD, List.getElem?_eq_none (by omega)]; decide
  have hv := wv_lt (fun i => l.getD i 0) 2 (fun i _ => hlt i)
  have hv2 : wv (fun i => l.getD i 0) 2 < 18446744073709551616 := Nat.lt_of_lt_of_le hv (by decide)
  have W := Lib.hid (Word_ok A 2 cap l w (by decide) hb)
  have hcap : 2 ≤ cap := hb.2.2.1
  have hcap2 : cap ≤ 9223372036854775807 := by have := hb.2.2.2.1; unfold maxLen at this; omega
  obtain ⟨v, ev⟩ : ∃ v, v = wv (fun i => l.getD i 0) 2 := ⟨_, rfl⟩
  rw [← ev] at W hv2 ⊢
  have E := Lib.hid (ex_16_32 s v w hv2)
  have M := Lib.hid (wide_yes 32 w (.inl rfl))
  clear hb hlt hv ev
  go_enter Tryd.func25, Tryd.ntmps25
  go_wp2_with (first
    | (go_at_call 24; refine W.out.mono ?_; rintro e w1 ⟨rfl, rfl⟩)
    | (go_at_call 41; refine M.out.mono ?_; rintro e w1 ⟨rfl, rfl⟩)
    | (go_at_call 42; refine E.out.mono ?_; rintro e w1 ⟨rfl, rfl⟩))
  go_ret2
  exact ⟨rfl, rfl⟩
set_option maxHeartbeats 1000000 in
set_option maxRecDepth 100000 in
theorem Load_2_64 (A : Option Addr) (cap : Nat) (l : List Nat) (s : Bool) (w : World) (hb : Byt w A 2 cap l) :
    Calls Tryd.prog 25 #[.slice A 2 cap, .int .i64 64, .bool s] w fun e w' => e = .returned (.tuple #[.int .u64 ((exv 16 64 s (wv (fun i => l.getD i 0) 2) : Nat) : Int), .int .i64 0]) ∧ w = w' := by
  have hlt : ∀ i, l.getD i 0 < 256 := fun i => by
    by_cases q : i < l.length
    · rw [List.getD_eq_getElem?_getD, List.getElem?_eq_getElem q]; exact hb.2.1 _ (List.getElem_mem q)
    · rw [List.getD_eq_getElem?_getD, List.getElem?_eq_none (by omega)]; decide
  have hv := wv_lt (fun i => l.getD i 0) 2 (fun i _ => hlt i)
  have hv2 : wv (fun i => l.getD i 0) 2 < 18446744073709551616 := Nat.lt_of_lt_of_le hv (by decide)
  have W := Lib.hid (Word_ok A 2 cap l w (by decide) hb)
  have hcap : 2 ≤ cap := hb.2.2.1
  have hcap2 : cap ≤ 9223372036854775807 := by have := hb.2.2.2.1; unfold maxLen at this; omega
  obtain ⟨v, ev⟩ : ∃ v, v = wv (fun i => l.getD i 0) 2 := ⟨_, rfl⟩
  rw [← ev] at W hv2 ⊢
  have E := Lib.hid (ex_16_64 s v w hv2)
  have M := Lib.hid (wide_yes 64 w (.inr rfl))
  clear hb hlt hv ev
  go_enter Tryd.func25, Tryd.ntmps25
  go_wp2_with (first
    | (go_at_call 24; refine W.out.mono ?_; rintro e w1 ⟨rfl, rfl⟩)
    | (go_at_call 41; refine M.out.mono ?_; rintro e w1 ⟨rfl, rfl⟩)
    | (go_at_call 42; refine E.out.mono ?_; rintro e w1 ⟨rfl, rfl⟩))
  go_ret2
  exact ⟨rfl, rfl⟩
set_option maxHeartbeats 1000000 in
set_option maxRecDepth 100000 in
theorem Load_4_32 (A : Option Addr) (cap : Nat) (l : List Nat) (s : Bool) (w : World) (hb : Byt w A 4 cap l) :
    Calls Tryd.prog 25 #[.slice A 4 cap, .int .i64 32, .bool s] w fun e w' => e = .returned (.tuple #[.int .u64 ((exv 32 32 s (wv (fun i => l.getD i 0) 4) : Nat) : Int), .int .i64 0]) ∧ w = w' := by
  have hlt : ∀ i, l.getD i 0 < 256 := fun i => by
    by_cases q : i < l.length
    · rw [List.getD_eq_getElem?_getD, List.getElem?_eq_getElem q]; exact hb.2.1 _ (List.getElem_mem q)
    · rw [List.getD_eq_getElem?_getD, List.getElem?_eq_none (by omega)]; decide
  have hv := wv_lt (fun i => l.getD i 0) 4 (fun i _ => hlt i)
  have hv2 : wv (fun i => l.getD i 0) 4 < 18446744073709551616 := Nat.lt_of_lt_of_le hv (by decide)
  have W := Lib.hid (Word_ok A 4 cap l w (by decide) hb)
  have hcap : 4 ≤ cap := hb.2.2.1
  have hcap2 : cap ≤ 9223372036854775807 := by have := hb.2.2.2.1; unfold maxLen at this; omega
  obtain ⟨v, ev⟩ : ∃ v, v = wv (fun i => l.getD i 0) 4 := ⟨_, rfl⟩
  rw [← ev] at W hv2 ⊢
  have E := Lib.hid (ex_32_32 s v w hv2)
  have M := Lib.hid (wide_yes 32 w (.inl rfl))
  clear hb hlt hv ev
  go_enter Tryd.func25, Tryd.ntmps25
  go_wp2_with (first
    | (go_at_call 24; refine W.out.mono ?_; rintro e w1 ⟨rfl, rfl⟩)
    | (go_at_call 41; refine M.out.mono ?_; rintro e w1 ⟨rfl, rfl⟩)
    | (go_at_call 42; refine E.out.mono ?_; rintro e w1 ⟨rfl, rfl⟩))
  go_ret2
  exact ⟨rfl, rfl⟩
set_option maxHeartbeats 1000000 in
set_option maxRecDepth 100000 in
theorem Load_4_64 (A : Option Addr) (cap : Nat) (l : List Nat) (s : Bool) (w : World) (hb : Byt w A 4 cap l) :
    Calls Tryd.prog 25 #[.slice A 4 cap, .int .i64 64, .bool s] w fun e w' => e = .returned (.tuple #[.int .u64 ((exv 32 64 s (wv (fun i => l.getD i 0) 4) : Nat) : Int), .int .i64 0]) ∧ w = w' := by
  have hlt : ∀ i, l.getD i 0 < 256 := fun i => by
    by_cases q : i < l.length
    · rw [List.getD_eq_getElem?_getD, List.getElem?_eq_getElem q]; exact hb.2.1 _ (List.getElem_mem q)
    · rw [List.getD_eq_getElem?_getD, List.getElem?_eq_none (by omega)]; decide
  have hv := wv_lt (fun i => l.getD i 0) 4 (fun i _ => hlt i)
  have hv2 : wv (fun i => l.getD i 0) 4 < 18446744073709551616 := Nat.lt_of_lt_of_le hv (by decide)
  have W := Lib.hid (Word_ok A 4 cap l w (by decide) hb)
  have hcap : 4 ≤ cap := hb.2.2.1
  have hcap2 : cap ≤ 9223372036854775807 := by have := hb.2.2.2.1; unfold maxLen at this; omega
  obtain ⟨v, ev⟩ : ∃ v, v = wv (fun i => l.getD i 0) 4 := ⟨_, rfl⟩
  rw [← ev] at W hv2 ⊢
  have E := Lib.hid (ex_32_64 s v w hv2)
  have M := Lib.hid (wide_yes 64 w (.inr rfl))
  clear hb hlt hv ev
  go_enter Tryd.func25, Tryd.ntmps25
  go_wp2_with (first
    | (go_at_call 24; refine W.out.mono ?_; rintro e w1 ⟨rfl, rfl⟩)
    | (go_at_call 41; refine M.out.mono ?_; rintro e w1 ⟨rfl, rfl⟩)
    | (go_at_call 42; refine E.out.mono ?_; rintro e w1 ⟨rfl, rfl⟩))
  go_ret2
  exact ⟨rfl, rfl⟩
set_option maxHeartbeats 1000000 in
set_option maxRecDepth 100000 in
theorem Load_8_64 (A : Option Addr) (cap : Nat) (l : List Nat) (s : Bool) (w : World) (hb : Byt w A 8 cap l) :
    Calls Tryd.prog 25 #[.slice A 8 cap, .int .i64 64, .bool s] w fun e w' => e = .returned (.tuple #[.int .u64 ((exv 64 64 s (wv (fun i => l.getD i 0) 8) : Nat) : Int), .int .i64 0]) ∧ w = w' := by
  have hlt : ∀ i, l.getD i 0 < 256 := fun i => by
    by_cases q : i < l.length
    · rw [List.getD_eq_getElem?_getD, List.getElem?_eq_getElem q]; exact hb.2.1 _ (List.getElem_mem q)
    · rw [List.getD_eq_getElem?_getD, List.getElem?_eq_none (by omega)]; decide
  have hv := wv_lt (fun i => l.getD i 0) 8 (fun i _ => hlt i)
  have hv2 : wv (fun i => l.getD i 0) 8 < 18446744073709551616 := Nat.lt_of_lt_of_le hv (by decide)
  have W := Lib.hid (Word_ok A 8 cap l w (by decide) hb)
  have hcap : 8 ≤ cap := hb.2.2.1
  have hcap2 : cap ≤ 9223372036854775807 := by have := hb.2.2.2.1; unfold maxLen at this; omega
  obtain ⟨v, ev⟩ : ∃ v, v = wv (fun i => l.getD i 0) 8 := ⟨_, rfl⟩
  rw [← ev] at W hv2 ⊢
  have E := Lib.hid (ex_64_64 s v w hv2)
  have M := Lib.hid (wide_yes 64 w (.inr rfl))
  clear hb hlt hv ev
  go_enter Tryd.func25, Tryd.ntmps25
  go_wp2_with (first
    | (go_at_call 24; refine W.out.mono ?_; rintro e w1 ⟨rfl, rfl⟩)
    | (go_at_call 41; refine M.out.mono ?_; rintro e w1 ⟨rfl, rfl⟩)
    | (go_at_call 42; refine E.out.mono ?_; rintro e w1 ⟨rfl, rfl⟩))
  go_ret2
  exact ⟨rfl, rfl⟩
theorem back_1 (a : Nat) (s : Bool) (ha : a < 18446744073709551616) : exv 8 64 s (a % 256) % 2 ^ (8 * 1) = a % 2 ^ (8 * 1) ∧ exv 8 64 false (a % 256) = a % 256 ∧ exv 8 64 s (a % 256) < 18446744073709551616 := by
  have h1 : exv 8 64 s (a % 256) = if s = true ∧ 128 ≤ a % 256 % 256 then a % 256 % 256 + 18446744073709551616 - 256 else a % 256 % 256 := by unfold exv; rfl
  have h2 : exv 8 64 false (a % 256) = a % 256 % 256 := by simp [exv]
  rw [h1, h2, show 2 ^ (8 * 1) = 256 from rfl]
  refine ⟨?_, by omega, ?_⟩
  · split <;> omega
  · split <;> omega
theorem back_2 (a : Nat) (s : Bool) (ha : a < 18446744073709551616) : exv 16 64 s (a % 65536) % 2 ^ (8 * 2) = a % 2 ^ (8 * 2) ∧ exv 16 64 false (a % 65536) = a % 65536 ∧ exv 16 64 s (a % 65536) < 18446744073709551616 := by
  have h1 : exv 16 64 s (a % 65536) = if s = true ∧ 32768 ≤ a % 65536 % 65536 then a % 65536 % 65536 + 18446744073709551616 - 65536 else a % 65536 % 65536 := by unfold exv; rfl
  have h2 : exv 16 64 false (a % 65536) = a % 65536 % 65536 := by simp [exv]
  rw [h1, h2, show 2 ^ (8 * 2) = 65536 from rfl]
  refine ⟨?_, by omega, ?_⟩
  · split <;> omega
  · split <;> omega
theorem back_4 (a : Nat) (s : Bool) (ha : a < 18446744073709551616) : exv 32 64 s (a % 4294967296) % 2 ^ (8 * 4) = a % 2 ^ (8 * 4) ∧ exv 32 64 false (a % 4294967296) = a % 4294967296 ∧ exv 32 64 s (a % 4294967296) < 18446744073709551616 := by
  have h1 : exv 32 64 s (a % 4294967296) = if s = true ∧ 2147483648 ≤ a % 4294967296 % 4294967296 then a % 4294967296 % 4294967296 + 18446744073709551616 - 4294967296 else a % 4294967296 % 4294967296 := by unfold exv; rfl
  have h2 : exv 32 64 false (a % 4294967296) = a % 4294967296 % 4294967296 := by simp [exv]
  rw [h1, h2, show 2 ^ (8 * 4) = 4294967296 from rfl]
  refine ⟨?_, by omega, ?_⟩
  · split <;> omega
  · split <;> omega
theorem back_8 (a : Nat) (s : Bool) (ha : a < 18446744073709551616) : exv 64 64 s (a % 18446744073709551616) % 2 ^ (8 * 8) = a % 2 ^ (8 * 8) ∧ exv 64 64 false (a % 18446744073709551616) = a % 18446744073709551616 ∧ exv 64 64 s (a % 18446744073709551616) < 18446744073709551616 := by
  have h1 : exv 64 64 s (a % 18446744073709551616) = if s = true ∧ 9223372036854775808 ≤ a % 18446744073709551616 % 18446744073709551616 then a % 18446744073709551616 % 18446744073709551616 + 18446744073709551616 - 18446744073709551616 else a % 18446744073709551616 % 18446744073709551616 := by unfold exv; rfl
  have h2 : exv 64 64 false (a % 18446744073709551616) = a % 18446744073709551616 % 18446744073709551616 := by simp [exv]
  rw [h1, h2, show 2 ^ (8 * 8) = 18446744073709551616 from rfl]
  refine ⟨?_, by omega, ?_⟩
  · split <;> omega
  · split <;> omega
end Go.Proofs.YtmbnaejoiglckaaDoor
