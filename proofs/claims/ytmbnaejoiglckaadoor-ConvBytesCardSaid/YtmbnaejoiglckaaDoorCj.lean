/-
  conv.Bytes, Word, Load, where the number of bytes or of bits may not be.
-/
import Derived.Test.YtmbnaejoiglckaaDoorCi
namespace Go.Proofs.YtmbnaejoiglckaaDoor
open Go.RowKit
set_option linter.unusedVariables false
def cnt4 (n : Int) : Prop := n = 1 ∨ n = 2 ∨ n = 4 ∨ n = 8
set_option maxRecDepth 100000 in
theorem Bytes_bad (a n : Int) (w : World) (h : ¬ cnt4 n) :
    Calls Tryd.prog 22 #[.int .u64 a, .int .i64 n] w fun e w' => e = .returned (.tuple #[.slice none 0 0, .int .i64 1]) ∧ w = w' := by
  have M := Lib.hid (many_no n w h)
  clear h
  go_enter Tryd.func22, Tryd.ntmps22
  go_wp2_with (go_at_call 44; refine M.out.mono ?_; rintro e w1 ⟨rfl, rfl⟩)
  go_ret2
  exact ⟨rfl, rfl⟩
set_option maxRecDepth 100000 in
theorem Word_bad (A : Option Addr) (n cap : Nat) (w : World) (h : ¬ cnt4 (n : Int)) :
    Calls Tryd.prog 24 #[.slice A n cap] w fun e w' => e = .returned (.tuple #[.int .u64 0, .int .i64 1]) ∧ w = w' := by
  have M := Lib.hid (many_no (n : Int) w h)
  clear h
  go_enter Tryd.func24, Tryd.ntmps24
  go_wp2_with (go_at_call 44; refine M.out.mono ?_; rintro e w1 ⟨rfl, rfl⟩)
  go_ret2
  exact ⟨rfl, rfl⟩
set_option maxRecDepth 100000 in
theorem Load_bad1 (A : Option Addr) (n cap : Nat) (t : Int) (s : Bool) (w : World) (h : ¬ cnt4 (n : Int)) :
    Calls Tryd.prog 25 #[.slice A n cap, .int .i64 t, .bool s] w fun e w' => e = .returned (.tuple #[.int .u64 0, .int .i64 1]) ∧ w = w' := by
  have M := Lib.hid (Word_bad A n cap w h)
  clear h
  go_enter Tryd.func25, Tryd.ntmps25
  go_wp2_with (go_at_call 24; refine M.out.mono ?_; rintro e w1 ⟨rfl, rfl⟩)
  go_ret2
  exact ⟨rfl, rfl⟩
set_option maxHeartbeats 1000000 in
set_option maxRecDepth 100000 in
theorem Load_bad2 (A : Option Addr) (n cap : Nat) (l : List Nat) (t : Int) (s : Bool) (w : World) (h : n = 1 ∨ n = 2 ∨ n = 4 ∨ n = 8) (hb : Byt w A n cap l) (ht : ¬ Wd.ok t) :
    Calls Tryd.prog 25 #[.slice A n cap, .int .i64 t, .bool s] w fun e w' => e = .returned (.tuple #[.int .u64 0, .int .i64 1]) ∧ w = w' := by
  have M := Lib.hid (Word_ok A n cap l w h hb)
  have T := Lib.hid (wide_no t w ht)
  clear h hb ht
  go_enter Tryd.func25, Tryd.ntmps25
  go_wp2_with (first
    | (go_at_call 24; refine M.out.mono ?_; rintro e w1 ⟨rfl, rfl⟩)
    | (go_at_call 41; refine T.out.mono ?_; rintro e w1 ⟨rfl, rfl⟩))
  go_ret2
  exact ⟨rfl, rfl⟩
set_option maxHeartbeats 1000000 in
set_option maxRecDepth 100000 in
theorem Load_bad8 (A : Option Addr) (cap : Nat) (l : List Nat) (s : Bool) (w : World) (hb : Byt w A 8 cap l) :
    Calls Tryd.prog 25 #[.slice A 8 cap, .int .i64 32, .bool s] w fun e w' => e = .returned (.tuple #[.int .u64 0, .int .i64 1]) ∧ w = w' := by
  have M : Hid (Calls Tryd.prog 24 #[.slice A 8 cap] w fun e w' => e = .returned (.tuple #[.int .u64 ((wv (fun i => l.getD i 0) 8 : Nat) : Int), .int .i64 0]) ∧ w = w') := Lib.hid (Word_ok A 8 cap l w (by omega) hb)
  have T := Lib.hid (wide_yes 32 w (.inl rfl))
  clear hb
  go_enter Tryd.func25, Tryd.ntmps25
  go_wp2_with (first
    | (go_at_call 24; refine M.out.mono ?_; rintro e w1 ⟨rfl, rfl⟩)
    | (go_at_call 41; refine T.out.mono ?_; rintro e w1 ⟨rfl, rfl⟩))
  go_ret2
  exact ⟨rfl, rfl⟩
end Go.Proofs.YtmbnaejoiglckaaDoor
