/-
  code.Deep; code.Read of too many bytes; what is known of deep bodies.
-/
import Derived.Test.YtggfaalodojjkaaDoorNj
namespace Go.Proofs.YtggfaalodojjkaaDoor
open Go.RowKit
set_option linter.unusedVariables false
set_option linter.unusedSimpArgs false
def DpP (L : List Int) (w : World) (e : Ending) (w' : World) : Prop := Below w.heap.size w w' ∧ e = .returned (.int .i64 (if (thN L n0).1 = 0 then ((thN L n0).2.dp : Int) else 0))
set_option maxHeartbeats 4000000 in
set_option maxRecDepth 100000 in
theorem Deep_ok (A : Option Addr) (cap : Nat) (L : List Int) (hL : L.length ≤ 100000) (w : World) (hA : Ins w A cap L) :
    Calls Tryd.prog 11 #[.slice A L.length cap] w (DpP L w) := by
  have HT := Lib.hid (through_ok A cap L hL w hA)
  clear hA
  unfold DpP
  obtain ⟨⟨r, n⟩, ht⟩ : ∃ x, x = thN L n0 := ⟨_, rfl⟩
  rw [← ht]
  dsimp only
  by_cases hr : r = 0
  · subst hr
    rw [if_pos rfl]
    go_enter Tryd.func11, Tryd.ntmps11
    go_wp2_with (go_at_call 25; (with_reducible refine HT.out.mono ?_); rintro e w1 ⟨A1, d1, A2, d2, n', r', ht2, rfl, ho, hb⟩
                 rw [← ht] at ht2
                 cases ht2
                 have HB := Lib.hid hb
                 clear ho hb)
    go_ret
    exact ⟨HB.out.alloc HB.out.size _, rfl⟩
  · have hr2 : (r == 0) = false := by simpa using hr
    rw [if_neg hr]
    have HR := Lib.hid hr
    clear hr
    go_enter Tryd.func11, Tryd.ntmps11
    go_wp2_with (go_at_call 25; (with_reducible refine HT.out.mono ?_); rintro e w1 ⟨A1, d1, A2, d2, n', r', ht2, rfl, ho, hb⟩
                 rw [← ht] at ht2
                 cases ht2
                 have HB := Lib.hid hb
                 clear ho hb)
    go_ret
    exact ⟨HB.out.alloc HB.out.size _, rfl⟩
/-- a body of n blocks, one in the other -/
def deepL (n : Nat) (c : Int) : List Int := List.replicate n c ++ List.replicate (n + 1) 11
def deepB (n : Nat) (c : Int) : Bool :=
  let r := thN (deepL n c) n0
  if n ≤ 64 then r.1 == 0 && r.2.sp.length == n && r.2.dp == n && ((r.2.sp[0]?).map fun s => s.2.2) == some (2 * n - 1) else r.1 == 15 && r.2.pos == 64
theorem deep_all : ((List.range 16).all fun d => deepB (55 + d) 2 && deepB (55 + d) 3) = true := by kernel_rfl
theorem deep_one (d : Nat) (hd : d < 16) (lp : Bool) : deepB (55 + d) (if lp then 3 else 2) = true := by
  have h := List.all_eq_true.1 deep_all d (List.mem_range.2 hd)
  rw [Bool.and_eq_true] at h
  cases lp
  · exact h.1
  · exact h.2
end Go.Proofs.YtggfaalodojjkaaDoor
