/-
  conv.Extend, Wrap, Print of -1, and the given example of layer 6 (awake).
-/
import Derived.Test.YtmbnaejoiglckaaDoorCb
namespace Go.Proofs.YtmbnaejoiglckaaDoor
open Go.RowKit
set_option linter.unusedVariables false
theorem extend_any (f t : Int) (s : Bool) (a : Nat) (w : World) (hf : f = 8 ∨ f = 16 ∨ f = 32) (ht : Wd.ok t) (ha : a < 18446744073709551616) :
    Calls Tryd.prog 42 #[.int .i64 f, .int .i64 t, .bool s, .int .u64 a] w fun e w' => e = .returned (.int .u64 ((exv f.toNat t.toNat s a : Nat) : Int)) ∧ w = w' := by
  rcases hf with rfl | rfl | rfl <;> rcases ht with rfl | rfl
  · exact ex_8_32 s a w ha
  · exact ex_8_64 s a w ha
  · exact ex_16_32 s a w ha
  · exact ex_16_64 s a w ha
  · exact ex_32_32 s a w ha
  · exact ex_32_64 s a w ha
set_option maxHeartbeats 1000000 in
set_option maxRecDepth 100000 in
theorem Extend_ok (f t : Int) (s : Bool) (a : Nat) (w : World) (hf : f = 8 ∨ f = 16 ∨ f = 32) (ht : Wd.ok t) (ha : a < 18446744073709551616) :
    Calls Tryd.prog 18 #[.int .i64 f, .int .i64 t, .bool s, .int .u64 a] w fun e w' => e = .returned (.tuple #[.int .u64 ((exv f.toNat t.toNat s a : Nat) : Int), .int .i64 0]) ∧ w = w' := by
  have E := Lib.hid (extend_any f t s a w hf ht ha)
  have W := Lib.hid (wide_yes t w ht)
  obtain ⟨x, hx⟩ : ∃ x, x = exv f.toNat t.toNat s a := ⟨_, rfl⟩
  rw [← hx] at E ⊢
  clear hx ht ha
  rcases hf with rfl | rfl | rfl
  all_goals
    go_enter Tryd.func18, Tryd.ntmps18
    go_wp2_with (first
      | (go_at_call 41; refine W.out.mono ?_; rintro e w1 ⟨rfl, rfl⟩)
      | (go_at_call 42; refine E.out.mono ?_; rintro e w1 ⟨rfl, rfl⟩))
    go_ret2
    exact ⟨rfl, rfl⟩
set_option maxHeartbeats 1000000 in
set_option maxRecDepth 100000 in
theorem Extend_bad (f t : Int) (s : Bool) (a : Nat) (w : World) (h : ¬ ((f = 8 ∨ f = 16 ∨ f = 32) ∧ Wd.ok t)) :
    Calls Tryd.prog 18 #[.int .i64 f, .int .i64 t, .bool s, .int .u64 a] w fun e w' => e = .returned (.tuple #[.int .u64 0, .int .i64 1]) ∧ w = w' := by
  by_cases hf : f = 8 ∨ f = 16 ∨ f = 32
  · have W := Lib.hid (wide_no t w (fun q => h ⟨hf, q⟩))
    clear h
    rcases hf with rfl | rfl | rfl
    all_goals
      go_enter Tryd.func18, Tryd.ntmps18
      go_wp2_with (go_at_call 41; refine W.out.mono ?_; rintro e w1 ⟨rfl, rfl⟩)
      go_ret2
      exact ⟨rfl, rfl⟩
  · have h1 : (f != 8) = true := by simp; omega
    have h2 : (f != 16) = true := by simp; omega
    have h3 : (f != 32) = true := by simp; omega
    clear h hf
    go_enter Tryd.func18, Tryd.ntmps18
    go_wp2
    go_ret2
    exact ⟨rfl, rfl⟩
/-- the first cell of the table of powers -/
def Pw (w : World) : Prop := w.cell? ⟨1, 0, none⟩ = some (.int .u64 1) ∧ 1 < w.heap.size
theorem Pw.below {w w' : World} (h : Pw w) {B : Nat} (hb : Below B w w') (hB : 1 < B) : Pw w' := ⟨(hb.cell (p := ⟨1, 0, none⟩) hB).trans h.1, Nat.lt_of_lt_of_le h.2 hb.size⟩
theorem Pw.size {w : World} (h : Pw w) : 1 < w.heap.size := h.2
set_option maxHeartbeats 1000000 in
set_option maxRecDepth 100000 in
theorem awake6_any (w : World) (hP : Pw w) : Calls Tryd.prog 20 #[] w fun e w' => e = .returned (.bool true) ∧ Below w.heap.size w w' := by
  have X : Calls Tryd.prog 18 #[.int .i64 8, .int .i64 32, .bool true, .int .u64 255] w fun e w' => e = .returned (.tuple #[.int .u64 4294967295, .int .i64 0]) ∧ w = w' :=
    Extend_ok 8 32 true 255 w (.inl rfl) (.inl rfl) (by decide)
  have S : Calls Tryd.prog 13 #[.int .i64 32, .int .u64 4294967295] w fun e w' => e = .returned (.int .i64 (-1)) ∧ w = w' :=
    Sign_any 32 4294967295 w (by decide)
  have F := Fmt_m1 w hP.1 hP.2
  have HX := Lib.hid X
  have HS := Lib.hid S
  have HF := Lib.hid F
  clear X S F
  go_enter Tryd.func20, Tryd.ntmps20
  go_wp2_with (first
    | (go_at_call 18; refine HX.out.mono ?_; rintro e w1 ⟨rfl, rfl⟩)
    | (go_at_call 13; refine HS.out.mono ?_; rintro e w1 ⟨rfl, rfl⟩)
    | (go_at_call 55; refine HF.out.mono ?_; rintro e w1 ⟨rfl, hb⟩; have HB := Lib.hid hb; clear hb)
    | go_in)
  go_ret
  exact ⟨rfl, HB.out⟩
end Go.Proofs.YtmbnaejoiglckaaDoor
