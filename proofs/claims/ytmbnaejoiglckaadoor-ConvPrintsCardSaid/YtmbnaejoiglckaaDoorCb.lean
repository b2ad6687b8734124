/-
  conv.extend, Extend, Print of -1, and the given example of layer 6 (awake).
-/
import Derived.Test.YtmbnaejoiglckaaDoorCa
namespace Go.Proofs.YtmbnaejoiglckaaDoor
open Go.RowKit
set_option linter.unusedVariables false
/-- the low bits of a word, as a word of more bits -/
def exv (f t : Nat) (s : Bool) (a : Nat) : Nat := if s = true ∧ 2 ^ (f - 1) ≤ a % 2 ^ f then a % 2 ^ f + 2 ^ t - 2 ^ f else a % 2 ^ f
theorem wide_yes (t : Int) (w : World) (h : Wd.ok t) : Calls Tryd.prog 41 #[.int .i64 t] w fun e w' => e = .returned (.bool true) ∧ w = w' := by
  rcases h with rfl | rfl
  all_goals
    go_enter Tryd.func41, Tryd.ntmps41
    go_wp2
    go_ret
    exact ⟨rfl, rfl⟩
theorem wide_no (t : Int) (w : World) (h : ¬ Wd.ok t) : Calls Tryd.prog 41 #[.int .i64 t] w fun e w' => e = .returned (.bool false) ∧ w = w' := by
  have h1 : (t == 32) = false := by simp; intro e; exact h (.inl e)
  have h2 : (t == 64) = false := by simp; intro e; exact h (.inr e)
  clear h
  go_enter Tryd.func41, Tryd.ntmps41
  go_wp2
  go_ret
  exact ⟨rfl, rfl⟩
theorem zx_8 (a : Nat) (t : Nat) : IntKind.u64.wrap ((a : Int) * 72057594037927936) / 72057594037927936 = ((exv 8 t false a : Nat) : Int) := by
  have e : exv 8 t false a = a % 256 := by simp [exv]
  rw [e, IntKind.wrap_u64]
  omega
theorem sx_8 (a : Nat) : ∃ r : Nat, IntKind.u64.wrap (wrap64 (IntKind.u64.wrap ((a : Int) * 72057594037927936)) / 72057594037927936) = (r : Int) ∧ r = (if 128 ≤ a % 256 then a % 256 + 18446744073709551616 - 256 else a % 256) := by
  refine ⟨_, ?_, rfl⟩
  rw [IntKind.wrap_u64, IntKind.wrap_u64]
  unfold wrap64
  split <;> omega
theorem sx_8_32 (a r : Nat) (h : r = (if 128 ≤ a % 256 then a % 256 + 18446744073709551616 - 256 else a % 256)) : Wd.cut 32 r = exv 8 32 true a := by
  have e : exv 8 32 true a = if 128 ≤ a % 256 then a % 256 + 4294967296 - 256 else a % 256 := by simp [exv]
  rw [e, h]
  simp only [Wd.cut, if_true]
  split <;> omega
theorem sx_8_64 (a r : Nat) (h : r = (if 128 ≤ a % 256 then a % 256 + 18446744073709551616 - 256 else a % 256)) : Wd.cut 64 r = exv 8 64 true a := by
  have e : exv 8 64 true a = if 128 ≤ a % 256 then a % 256 + 18446744073709551616 - 256 else a % 256 := by simp [exv]
  rw [e, h]
  simp [Wd.cut]
set_option maxHeartbeats 1000000 in
set_option maxRecDepth 100000 in
theorem ex_8_32 (s : Bool) (a : Nat) (w : World) (ha : a < 18446744073709551616) :
    Calls Tryd.prog 42 #[.int .i64 8, .int .i64 32, .bool s, .int .u64 a] w fun e w' => e = .returned (.int .u64 ((exv 8 32 s a : Nat) : Int)) ∧ w = w' := by
  cases s
  · have Z := Lib.hid (zx_8 a 32)
    go_enter Tryd.func42, Tryd.ntmps42
    go_wp2
    go_ret
    exact ⟨ret_int Z.out, rfl⟩
  · obtain ⟨r, hr, h2⟩ := sx_8 a
    have E := Lib.hid hr
    have H := Lib.hid (sx_8_32 a r h2)
    clear hr h2
    go_enter Tryd.func42, Tryd.ntmps42
    go_wp2_with (go_at_call 12; rw [E.out]; refine (Cut_any 32 r _).mono ?_; rw [H.out]; rintro e w1 ⟨rfl, rfl⟩)
    go_ret
    exact ⟨rfl, rfl⟩
set_option maxHeartbeats 1000000 in
set_option maxRecDepth 100000 in
theorem ex_8_64 (s : Bool) (a : Nat) (w : World) (ha : a < 18446744073709551616) :
    Calls Tryd.prog 42 #[.int .i64 8, .int .i64 64, .bool s, .int .u64 a] w fun e w' => e = .returned (.int .u64 ((exv 8 64 s a : Nat) : Int)) ∧ w = w' := by
  cases s
  · have Z := Lib.hid (zx_8 a 64)
    go_enter Tryd.func42, Tryd.ntmps42
    go_wp2
    go_ret
    exact ⟨ret_int Z.out, rfl⟩
  · obtain ⟨r, hr, h2⟩ := sx_8 a
    have E := Lib.hid hr
    have H := Lib.hid (sx_8_64 a r h2)
    clear hr h2
    go_enter Tryd.func42, Tryd.ntmps42
    go_wp2_with (go_at_call 12; rw [E.out]; refine (Cut_any 64 r _).mono ?_; rw [H.out]; rintro e w1 ⟨rfl, rfl⟩)
    go_ret
    exact ⟨rfl, rfl⟩
theorem zx_16 (a : Nat) (t : Nat) : IntKind.u64.wrap ((a : Int) * 281474976710656) / 281474976710656 = ((exv 16 t false a : Nat) : Int) := by
  have e : exv 16 t false a = a % 65536 := by simp [exv]
  rw [e, IntKind.wrap_u64]
  omega
theorem sx_16 (a : Nat) : ∃ r : Nat, IntKind.u64.wrap (wrap64 (IntKind.u64.wrap ((a : Int) * 281474976710656)) / 281474976710656) = (r : Int) ∧ r = (if 32768 ≤ a % 65536 then a % 65536 + 18446744073709551616 - 65536 else a % 65536) := by
  refine ⟨_, ?_, rfl⟩
  rw [IntKind.wrap_u64, IntKind.wrap_u64]
  unfold wrap64
  split <;> omega
theorem sx_16_32 (a r : Nat) (h : r = (if 32768 ≤ a % 65536 then a % 65536 + 18446744073709551616 - 65536 else a % 65536)) : Wd.cut 32 r = exv 16 32 true a := by
  have e : exv 16 32 true a = if 32768 ≤ a % 65536 then a % 65536 + 4294967296 - 65536 else a % 65536 := by simp [exv]
  rw [e, h]
  simp only [Wd.cut, if_true]
  split <;> omega
theorem sx_16_64 (a r : Nat) (h : r = (if 32768 ≤ a % 65536 then a % 65536 + 18446744073709551616 - 65536 else a % 65536)) : Wd.cut 64 r = exv 16 64 true a := by
  have e : exv 16 64 true a = if 32768 ≤ a % 65536 then a % 65536 + 18446744073709551616 - 65536 else a % 65536 := by simp [exv]
  rw [e, h]
  simp [Wd.cut]
set_option maxHeartbeats 1000000 in
set_option maxRecDepth 100000 in
theorem ex_16_32 (s : Bool) (a : Nat) (w : World) (ha : a < 18446744073709551616) :
    Calls Tryd.prog 42 #[.int .i64 16, .int .i64 32, .bool s, .int .u64 a] w fun e w' => e = .returned (.int .u64 ((exv 16 32 s a : Nat) : Int)) ∧ w = w' := by
  cases s
  · have Z := Lib.hid (zx_16 a 32)
    go_enter Tryd.func42, Tryd.ntmps42
    go_wp2
    go_ret
    exact ⟨ret_int Z.out, rfl⟩
  · obtain ⟨r, hr, h2⟩ := sx_16 a
    have E := Lib.hid hr
    have H := Lib.hid (sx_16_32 a r h2)
    clear hr h2
    go_enter Tryd.func42, Tryd.ntmps42
    go_wp2_with (go_at_call 12; rw [E.out]; refine (Cut_any 32 r _).mono ?_; rw [H.out]; rintro e w1 ⟨rfl, rfl⟩)
    go_ret
    exact ⟨rfl, rfl⟩
set_option maxHeartbeats 1000000 in
set_option maxRecDepth 100000 in
theorem ex_16_64 (s : Bool) (a : Nat) (w : World) (ha : a < 18446744073709551616) :
    Calls Tryd.prog 42 #[.int .i64 16, .int .i64 64, .bool s, .int .u64 a] w fun e w' => e = .returned (.int .u64 ((exv 16 64 s a : Nat) : Int)) ∧ w = w' := by
  cases s
  · have Z := Lib.hid (zx_16 a 64)
    go_enter Tryd.func42, Tryd.ntmps42
    go_wp2
    go_ret
    exact ⟨ret_int Z.out, rfl⟩
  · obtain ⟨r, hr, h2⟩ := sx_16 a
    have E := Lib.hid hr
    have H := Lib.hid (sx_16_64 a r h2)
    clear hr h2
    go_enter Tryd.func42, Tryd.ntmps42
    go_wp2_with (go_at_call 12; rw [E.out]; refine (Cut_any 64 r _).mono ?_; rw [H.out]; rintro e w1 ⟨rfl, rfl⟩)
    go_ret
    exact ⟨rfl, rfl⟩
theorem zx_32 (a : Nat) (t : Nat) : IntKind.u64.wrap ((a : Int) * 4294967296) / 4294967296 = ((exv 32 t false a : Nat) : Int) := by
  have e : exv 32 t false a = a % 4294967296 := by simp [exv]
  rw [e, IntKind.wrap_u64]
  omega
theorem sx_32 (a : Nat) : ∃ r : Nat, IntKind.u64.wrap (wrap64 (IntKind.u64.wrap ((a : Int) * 4294967296)) / 4294967296) = (r : Int) ∧ r = (if 2147483648 ≤ a % 4294967296 then a % 4294967296 + 18446744073709551616 - 4294967296 else a % 4294967296) := by
  refine ⟨_, ?_, rfl⟩
  rw [IntKind.wrap_u64, IntKind.wrap_u64]
  unfold wrap64
  split <;> omega
theorem sx_32_32 (a r : Nat) (h : r = (if 2147483648 ≤ a % 4294967296 then a % 4294967296 + 18446744073709551616 - 4294967296 else a % 4294967296)) : Wd.cut 32 r = exv 32 32 true a := by
  have e : exv 32 32 true a = if 2147483648 ≤ a % 4294967296 then a % 4294967296 + 4294967296 - 4294967296 else a % 4294967296 := by simp [exv]
  rw [e, h]
  simp only [Wd.cut, if_true]
  split <;> omega
theorem sx_32_64 (a r : Nat) (h : r = (if 2147483648 ≤ a % 4294967296 then a % 4294967296 + 18446744073709551616 - 4294967296 else a % 4294967296)) : Wd.cut 64 r = exv 32 64 true a := by
  have e : exv 32 64 true a = if 2147483648 ≤ a % 4294967296 then a % 4294967296 + 18446744073709551616 - 4294967296 else a % 4294967296 := by simp [exv]
  rw [e, h]
  simp [Wd.cut]
set_option maxHeartbeats 1000000 in
set_option maxRecDepth 100000 in
theorem ex_32_32 (s : Bool) (a : Nat) (w : World) (ha : a < 18446744073709551616) :
    Calls Tryd.prog 42 #[.int .i64 32, .int .i64 32, .bool s, .int .u64 a] w fun e w' => e = .returned (.int .u64 ((exv 32 32 s a : Nat) : Int)) ∧ w = w' := by
  cases s
  · have Z := Lib.hid (zx_32 a 32)
    go_enter Tryd.func42, Tryd.ntmps42
    go_wp2
    go_ret
    exact ⟨ret_int Z.out, rfl⟩
  · obtain ⟨r, hr, h2⟩ := sx_32 a
    have E := Lib.hid hr
    have H := Lib.hid (sx_32_32 a r h2)
    clear hr h2
    go_enter Tryd.func42, Tryd.ntmps42
    go_wp2_with (go_at_call 12; rw [E.out]; refine (Cut_any 32 r _).mono ?_; rw [H.out]; rintro e w1 ⟨rfl, rfl⟩)
    go_ret
    exact ⟨rfl, rfl⟩
set_option maxHeartbeats 1000000 in
set_option maxRecDepth 100000 in
theorem ex_32_64 (s : Bool) (a : Nat) (w : World) (ha : a < 18446744073709551616) :
    Calls Tryd.prog 42 #[.int .i64 32, .int .i64 64, .bool s, .int .u64 a] w fun e w' => e = .returned (.int .u64 ((exv 32 64 s a : Nat) : Int)) ∧ w = w' := by
  cases s
  · have Z := Lib.hid (zx_32 a 64)
    go_enter Tryd.func42, Tryd.ntmps42
    go_wp2
    go_ret
    exact ⟨ret_int Z.out, rfl⟩
  · obtain ⟨r, hr, h2⟩ := sx_32 a
    have E := Lib.hid hr
    have H := Lib.hid (sx_32_64 a r h2)
    clear hr h2
    go_enter Tryd.func42, Tryd.ntmps42
    go_wp2_with (go_at_call 12; rw [E.out]; refine (Cut_any 64 r _).mono ?_; rw [H.out]; rintro e w1 ⟨rfl, rfl⟩)
    go_ret
    exact ⟨rfl, rfl⟩
end Go.Proofs.YtmbnaejoiglckaaDoor
