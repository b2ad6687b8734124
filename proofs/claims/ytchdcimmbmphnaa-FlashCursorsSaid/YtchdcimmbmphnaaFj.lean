/-
  A cursor's Unsigned and Signed; a flash's Byte where the read fails.
-/
import Derived.Test.YtchdcimmbmphnaaFi
namespace Go.Proofs.Ytchdcimmbmphnaa
open Go.RowKit
set_option linter.unusedVariables false
set_option maxHeartbeats 400000 in
set_option maxRecDepth 100000 in
theorem cUnsigned (w : World) (f g c N : Nat) (l : List Nat) (r : Nat) (fa : Int) (fr t a : Nat) (k : Int) (h : St w f g c N l r fa fr t a) (hr : r < 100000) :
    Calls Try.prog 30 #[.pointer (some ⟨c, 0, none⟩), .int .i64 k] w (NumPost f g c N l r fa fr t a k w) := by
  have HN := Lib.hid (number_u64 w f g c N l r fa fr t a k h hr)
  clear h
  go_enter Try.func30, Try.ntmps30
  go_wp2_with (go_at_call 49; refine HN.out.mono ?_; rintro e w' ⟨x, y, r', a', rfl, h1, h2, h3, h4, h5⟩; have H1 := Lib.hid h1; have H2 := Lib.hid h2; have H5 := Lib.hid h5; clear h1 h2 h5)
  go_ret2
  exact ⟨x, y, r', a', rfl, H1.out, H2.out, h3, h4, H5.out⟩
set_option maxHeartbeats 400000 in
set_option maxRecDepth 100000 in
theorem cSigned (w : World) (f g c N : Nat) (l : List Nat) (r : Nat) (fa : Int) (fr t a : Nat) (k : Int) (h : St w f g c N l r fa fr t a) (hr : r < 100000) :
    Calls Try.prog 31 #[.pointer (some ⟨c, 0, none⟩), .int .i64 k] w (NumPostS f g c N l r fa fr t a k w) := by
  have HN := Lib.hid (number_i64 w f g c N l r fa fr t a k h hr)
  clear h
  go_enter Try.func31, Try.ntmps31
  go_wp2_with (go_at_call 50; refine HN.out.mono ?_; rintro e w' ⟨x, y, r', a', rfl, h1, h2, h3, h4, h5⟩; have H1 := Lib.hid h1; have H2 := Lib.hid h2; have H5 := Lib.hid h5; clear h1 h2 h5)
  go_ret2
  exact ⟨x, y, r', a', rfl, H1.out, H2.out, h3, h4, H5.out⟩
set_option maxHeartbeats 400000 in
set_option maxRecDepth 100000 in
theorem FByte_none (w : World) (f g : Nat) (l : List Nat) (r : Nat) (fa : Int) (h : Fl w f g 0 l r fa) :
    Calls Try.prog 37 #[.pointer (some ⟨f, 0, none⟩), .int .i64 0] w fun e w' => e = .returned (.tuple #[.int .u8 0, .int .i64 2]) ∧ w = w' := by
  have c0 : w.cell? ⟨f, 0, none⟩ = some (.slice (some ⟨g, 0, none⟩) 0 0) := h.blk.cell 0
  clear h
  go_enter Try.func37, Try.ntmps37
  go_wp2
  go_ret2
  exact ⟨rfl, rfl⟩
set_option maxHeartbeats 400000 in
set_option maxRecDepth 100000 in
theorem FByte_fail (w : World) (f g N : Nat) (l : List Nat) (r : Nat) (fa : Int) (h : Fl w f g N l r fa) (hN : 0 < N) (hr : r < 1000000) (h1 : 0 ≤ fa) (h2 : fa ≤ r) :
    Calls Try.prog 37 #[.pointer (some ⟨f, 0, none⟩), .int .i64 0] w fun e w' => e = .returned (.tuple #[.int .u8 0, .int .i64 9]) ∧ Fl w' f g N l (r + 1) fa ∧ Fr (· = f) w w' := by
  have c0 : w.cell? ⟨f, 0, none⟩ = some (.slice (some ⟨g, 0, none⟩) N N) := h.blk.cell 0
  have HR := Lib.hid (read_fail f g N l r fa 0 1 w h hr h1 h2)
  have hlim := h.lim
  clear h
  go_enter Try.func37, Try.ntmps37
  go_wp2_with (first | (go_at_call 48; refine HR.out.mono ?_; rintro e w' ⟨rfl, hf, hq⟩; have HF := Lib.hid hf; have HQ := Lib.hid hq; clear hf hq) | (go_at_call 51; go_in))
  go_ret2
  exact ⟨rfl, HF.out, HQ.out⟩
end Go.Proofs.Ytchdcimmbmphnaa
