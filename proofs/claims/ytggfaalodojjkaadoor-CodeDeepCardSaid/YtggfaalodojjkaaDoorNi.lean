/-
  code.Spans.
-/
import Derived.Test.YtggfaalodojjkaaDoorNh
namespace Go.Proofs.YtggfaalodojjkaaDoor
open Go.RowKit
set_option linter.unusedVariables false
set_option linter.unusedSimpArgs false
theorem below_drew {B : Nat} {w w1 : World} (h : Below B w w1) : Below B w w1.drew := ⟨h.os, h.tape, h.output, h.size, h.block⟩
/-- what Spans answers -/
def SnP (L : List Int) (w : World) (e : Ending) (w' : World) : Prop := Below w.heap.size w w' ∧
  ((∃ n, thN L n0 = (0, n) ∧ ∃ A c, e = .returned (.tuple #[.slice A n.sp.length c, .int .i64 0, .int .i64 0]) ∧ w'.ownsRow (w.heap.size + 1) 48 3 (.slice A n.sp.length c) n.sp.length (spC n.sp)) ∨
   (∃ n r, r ≠ 0 ∧ thN L n0 = (r, n) ∧ e = .returned (.tuple #[.slice none 0 0, .int .i64 (n.pos : Nat), .int .i64 r])))
set_option maxHeartbeats 4000000 in
set_option maxRecDepth 100000 in
theorem Spans_ok (A : Option Addr) (cap : Nat) (L : List Int) (hL : L.length ≤ 100000) (w : World) (hA : Ins w A cap L) :
    Calls Tryd.prog 10 #[.slice A L.length cap] w (SnP L w) := by
  have HT := Lib.hid (through_ok A cap L hL w hA)
  clear hA
  obtain ⟨⟨r, n⟩, ht⟩ : ∃ x, x = thN L n0 := ⟨_, rfl⟩
  by_cases hr : r = 0
  · subst hr
    go_enter Tryd.func10, Tryd.ntmps10
    go_wp2_with (go_at_call 25; (with_reducible refine HT.out.mono ?_); rintro e w1 ⟨A1, d1, A2, d2, n', r', ht2, rfl, ho, hb⟩
                 rw [← ht] at ht2
                 cases ht2
                 have HO := Lib.hid ho
                 have HB := Lib.hid hb
                 clear ho hb)
    go_ret3
    exact ⟨HB.out.alloc HB.out.size _, .inl ⟨n, ht.symm, _, _, rfl, own_fr HO.out ((Fr.refl (fun _ => False) w1).alloc _) (fun _ _ e => e)⟩⟩
  · have hr2 : (r == 0) = false := by simpa using hr
    have HR := Lib.hid hr
    clear hr
    go_enter Tryd.func10, Tryd.ntmps10
    go_wp2_with (go_at_call 25; (with_reducible refine HT.out.mono ?_); rintro e w1 ⟨A1, d1, A2, d2, n', r', ht2, rfl, ho, hb⟩
                 rw [← ht] at ht2
                 cases ht2
                 have HB := Lib.hid hb
                 clear ho hb)
    go_region
    all_goals go_wp2
    all_goals go_ret3
    all_goals exact ⟨below_drew (HB.out.alloc HB.out.size _), .inr ⟨n, r, HR.out, ht.symm, rfl⟩⟩
end Go.Proofs.YtggfaalodojjkaaDoor
